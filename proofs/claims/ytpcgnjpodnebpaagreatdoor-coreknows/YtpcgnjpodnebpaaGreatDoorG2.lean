import Derived.Lib.MinMax
import Derived.Test.YtpcgnjpodnebpaaGreatDoorG1
set_option maxRecDepth 100000
set_option linter.unusedVariables false
set_option linter.unusedSimpArgs false
set_option maxHeartbeats 8000000
namespace Go.Proofs.YtpcgnjpodnebpaaGreatDoor
open Go.RowKit Go.Maps Go.Shelf
open Classical
theorem makeYw {α : Type} {Y : Lay α} (K : Y.Ok) (w : World) {ops : Array Oper} {rest : List Oper} {o : Oper} {a : Act} {Q : Exit → Act → World → Prop} (hgd : o.guard = none) (x : Operand)
  (ho : o.op = .makeSlice Y.ST x x) (n : Nat) (hx : a.eval x = .int .i64 (n : Int)) (hm : n ≤ maxLen) (hb : n * Y.by_ ≤ 281474976710656)
  (h : ∀ w',OwnY Y w.heap.size w' (.slice (some ⟨w.heap.size,0,none⟩) n n) (List.replicate n Y.z) → Below w.heap.size w w' → wpList Tryz.prog ops Q rest (a.put o.dst (.slice (some ⟨w.heap.size,0,none⟩) n n)) w') : wpList Tryz.prog ops Q (o :: rest) a w:=by
 obtain ⟨zv,hinfo,hzc⟩:=K.info;obtain ⟨i0,hi,hz0,hz1,hz2⟩:=info_parts hinfo
 unfold maxLen at hm
 have hsz : (i0.bytes : Int) * (n : Int) ≤ 281474976710656:=by
  have h : ((n * Y.by_ : Nat) : Int) ≤ 281474976710656:=by omega
  rw [Int.natCast_mul,Int.mul_comm] at h;rw [hz2]
  omega
 have hr:=run_make (P:=Tryz.prog) w Y.ST Y.T i0 zv K.und hi hz0 .i64 .i64 n n (by omega) (Int.le_refl _) hsz (by omega);rw [Int.toNat_natCast,hz1] at hr
 refine wpList_plain hgd fun K' hK' => ?_
 unfold Oper.wp execOp
 simp only [ho,hx,Sem.run_bind,Sem.run_pure,hr,Result.andThen_ok];refine hK' _ _ (h _ ?_ (BR.alloc LR _))
 unfold OwnY
 rw [List.length_replicate,← madeY K hzc]
 exact World.ownsRow_lit w _ n LR (by unfold maxLen;omega) (size_madeCells _ _)
def tot (L : List (SV En)) : Nat:=(L.map (fun x => x.D.length)).sum
def flat (L : List (SV En)) : List En:=L.flatMap SV.D
theorem flat_length : ∀ L : List (SV En),(flat L).length = tot L
 | [] => rfl
 | x :: r => by simp only [flat,tot,List.flatMap_cons,List.length_append,List.map_cons,List.sum_cons];have:=flat_length r;unfold flat tot at this;rw [this]
theorem tot_step {L : List (SV En)} {j : Nat} {x : SV En} (h : L[j]? = some x) : tot (L.take (j + 1)) = tot (L.take j) + x.D.length:=by
 rw [List.take_add_one,h];simp [tot]
theorem flat_step {L : List (SV En)} {j : Nat} {x : SV En} (h : L[j]? = some x) : flat (L.take (j + 1)) = flat (L.take j) ++ x.D:=by
 rw [List.take_add_one,h];simp [flat]
theorem tot_le (L : List (SV En)) (j : Nat) : tot (L.take j) ≤ tot L:=by
 have : tot L = tot (L.take j) + tot (L.drop j):=by
  conv => lhs;rw [← List.take_append_drop j L]
  simp only [tot,List.map_append,List.sum_append]
 omega
theorem put_next {α : Type} (P D : List α) (z : α) (r : Nat) : put (P ++ List.replicate r z) P.length D = (P ++ D) ++ List.replicate (r - D.length) z:=by
 unfold put
 rw [List.take_append_of_le_length LR,List.take_length,List.drop_append,List.drop_of_length_le (by omega),Nat.add_sub_cancel_left,List.drop_replicate,List.nil_append]
theorem SlY.sl1 {w : World} {a : Option Addr} {n c : Nat} {L : List (SV En)} (h : SlY zE w a n c L) {j : Nat} {x : SV En} (hx : L[j]? = some x) : ∃ q o,a = some ⟨q,o,none⟩∧q < w.heap.size∧w.cell? ⟨q,o + j,none⟩ = some (.slice x.a x.D.length x.c):=by
 obtain ⟨q,o,ea,hq,hl⟩:=h.place (by rintro rfl;simp at hx);have:=hl j x hx 0 _ rfl
 have e : o + j * zE.k + 0 = o + j:=by show o + j * 1 + 0 = o + j;omega
 rw [e] at this
 exact ⟨q,o,ea,hq,this⟩
theorem lay_any (L : List (SV En)) (a : Option Addr) (n c : Nat) (w : World) (h : SlY zE w a n c L) (hx : ∀ x ∈ L,SlY yE w x.a x.D.length x.c x.D) (ht : tot L * 48 ≤ 281474976710656) :
  Calls Tryz.prog 142 #[.slice a n c] w fun e w' => e = .returned (.slice (some ⟨w.heap.size,0,none⟩) (tot L) (tot L))∧OwnY yE w.heap.size w' (.slice (some ⟨w.heap.size,0,none⟩) (tot L) (tot L)) (flat L)∧Below w.heap.size w w':=by
 have hmx:=h.max;have hcp:=h.cap;have hln:=h.len
 unfold maxLen at hmx
 have H:=hide h;have HX:=hide hx;have HN:=hide hln;clear h hx hln
 obtain ⟨T,hT⟩ : ∃ T,T = tot L:=⟨_,rfl⟩
 have HT:=hide hT;rw [← hT] at ht ⊢;clear hT
 go_enter Tryz.func142,Tryz.ntmps142
 go_wp2
 go_loopw [12,3] (fun i s wr => ∃ j A : Nat,i = .int .i64 (j : Int)∧j ≤ n∧s = .int .i64 (A : Int)∧Hid (A = tot (L.take j))∧wr = w) (fun i _ _ => n - (intOf i).toNat)
 case atStart => exact ⟨0,0,rfl,Nat.zero_le _,rfl,by show 0 = tot (L.take 0);simp [tot],rfl⟩
 case round =>
  obtain ⟨j,A,rfl,hj,rfl,hA,e1⟩:=hrel;have e1:=e1.symm;subst e1
  by_cases hlt : j < n
  ·have hjl : j < L.length:=by rw [HN.out];exact hlt
   have hd : L[j]? = some L[j]:=List.getElem?_eq_getElem hjl;obtain ⟨q,o,rfl,hq,hc⟩:=H.out.sl1 hd;have hst:=tot_step hd;have hle:=tot_le L (j + 1);rw [hst,← hA.out,← HT.out] at hle
   have hb : A + L[j].D.length ≤ 5864062014806:=by omega
   have HS : Hid (A + L[j].D.length = tot (L.take (j + 1))):=by show _ = _;rw [hst,← hA.out]
   clear hst hle hA hd
   generalize L[j] = x at *
   obtain ⟨xa,xc,xD⟩:=x
   dsimp only at hc hb HS
   generalize xD.length = m at *
   go_wp2
   go_round
   case rel => exact ⟨j + 1,A + m,by go_num,by omega,by go_num,HS,trivial⟩
   case measure => simp [intOf];omega
  ·obtain rfl : j = n:=by omega
   have hA2 : A = T:=by rw [hA.out,HT.out,List.take_of_length_le (by rw [HN.out];exact LR)]
   subst hA2;clear hA
   go_wp2_with (at_make;go_must (refine makeYw kE _ rfl (.tmp 21) rfl A rfl (by unfold maxLen;omega) ht ?zk))
   intro w1 o1 b1
   have HO : Hid (OwnY yE w.heap.size w1 (.slice (some ⟨w.heap.size,0,none⟩) A A) (flat (L.take 0) ++ List.replicate (A - 0) yE.z)):=by
    show OwnY _ _ _ _ _
    simpa [flat] using o1
   clear o1;have HK : Hid (tot L = A):=HT.out.symm;clear HT
   go_wp2
   go_loopw [25,7] (fun i s ws => ∃ j2 B : Nat,i = .int .i64 (j2 : Int)∧j2 ≤ j∧s = .int .i64 (B : Int)∧Hid (B = tot (L.take j2))∧Hid (OwnY yE w.heap.size ws (.slice (some ⟨w.heap.size,0,none⟩) A A) (flat (L.take j2) ++ List.replicate (A - B) yE.z))∧Below w.heap.size w ws) (fun i _ _ => j - (intOf i).toNat)
   case atStart => exact ⟨0,0,rfl,Nat.zero_le _,rfl,by show 0 = tot (L.take 0);simp [tot],HO,b1⟩
   case round =>
    obtain ⟨j2,B,rfl,hj2,rfl,hB,hO,hb⟩:=hrel;have hsz:=hb.size
    by_cases hlt2 : j2 < j
    ·have hjl : j2 < L.length:=by rw [HN.out];exact hlt2
     have hd : L[j2]? = some L[j2]:=List.getElem?_eq_getElem hjl;obtain ⟨q,o,rfl,hq,hc⟩:=(H.out.later hb).sl1 hd;have hxs:=(HX.out _ (List.getElem_mem hjl)).later hb;have hst:=tot_step hd;have hfs:=flat_step hd;have hle:=tot_le L (j2 + 1);rw [hst,← hB.out,HK.out] at hle
     have HS : Hid (B + L[j2].D.length = tot (L.take (j2 + 1))):=by show _ = _;rw [hst,← hB.out]
     have HP : Hid (put (flat (L.take j2) ++ List.replicate (A - B) yE.z) B L[j2].D = flat (L.take (j2 + 1)) ++ List.replicate (A - (B + L[j2].D.length)) yE.z):=by
      show _ = _
      have hl2 : (flat (L.take j2)).length = B:=by rw [flat_length,hB.out]
      have:=put_next (flat (L.take j2)) L[j2].D yE.z (A - B);rw [hl2] at this;rw [this,hfs,Nat.sub_sub]
     clear hst hB hd hfs
     generalize L[j2] = x at *
     obtain ⟨xa,xc,xD⟩:=x
     dsimp only at hc hle HS HP hxs
     generalize hm : xD.length = m at *
     have HM:=hide hm;have HXS:=hide hxs;clear hm hxs
     have hbb : (B : Int) + (m : Int) ≤ 5864062014806:=by omega
     by_cases hBA : B = A
     ·obtain rfl : m = 0:=by omega
      obtain rfl : xD = []:=List.eq_nil_of_length_eq_zero HM.out;subst hBA
      have HP2 : Hid (put (flat (L.take j2) ++ List.replicate (B - B) yE.z) 0 [] = flat (L.take (j2 + 1)) ++ List.replicate (B - (B + 0)) yE.z):=by
       show _ = _
       rw [← HP.out]
       simp [put]
      go_wp2_with (refine copyY kE _ rfl (.tmp 32) (.tmp 33) rfl w.heap.size w.heap.size 0 0 0 B xc 0 xa _ [] rfl rfl hO.out HXS.out (by omega) (by omega) ?zc)
      intro w2 o2 u2 s2
      have o2 : OwnY yE w.heap.size w2 (Value.slice (some ⟨w.heap.size,0,none⟩) B B) (flat (L.take (j2 + 1)) ++ List.replicate (B - (B + 0)) yE.z):=by
       rw [← HP2.out]
       simpa using o2
      have b2 : Below w.heap.size w w2:=hb.trans (u2.below hsz (fun k e => by omega))
      go_wp2
      go_round
      case rel => exact ⟨j2 + 1,B + 0,by go_num,by omega,by go_num,HS,hide o2,b2⟩
      case measure => simp [intOf];omega
     ·have hlt3 : B < A:=by omega
      go_wp2_with (refine copyY kE _ rfl (.tmp 32) (.tmp 33) rfl w.heap.size w.heap.size (A - B) (A - B) B A xc m xa _ xD rfl rfl hO.out HXS.out (by omega) (by omega) ?zd)
      intro w2 o2 u2 s2;rw [HP.out] at o2;have b2 : Below w.heap.size w w2:=hb.trans (u2.below hsz (fun k e => by omega))
      go_wp2
      go_round
      case rel => exact ⟨j2 + 1,B + m,by go_num,by omega,by go_num,HS,hide o2,b2⟩
      case measure => simp [intOf];omega
    ·obtain rfl : j2 = j:=by omega
     have hA2 : B = A:=by rw [hB.out,← HK.out,List.take_of_length_le (by rw [HN.out];exact LR)]
     subst hA2;have hO2:=hO.out;rw [Nat.sub_self,List.replicate_zero,List.append_nil,List.take_of_length_le (by rw [HN.out];exact LR)] at hO2;have hO3:=hide hO2;clear hO2 hO hB
     go_wp2
     go_ret
     exact ⟨rfl,hO3.out,hb⟩
theorem SlY.empty {α : Type} (Y : Lay α) (w : World) (a : Option Addr) : SlY Y w a 0 0 []:=⟨rfl,LR,by unfold maxLen;omega,fun _ => ⟨rfl,rfl⟩,fun x _ => .inl rfl⟩
theorem SlY.cut {α : Type} {Y : Lay α} {w : World} {q o n c : Nat} {l : List α} (hq : q < w.heap.size) (hl : LieY Y w q o l) (hn : l.length = n) (s m p : Nat) (hs : s < m) (hm : m ≤ n) (hp : m - s ≤ p) (hp2 : p ≤ maxLen) : SlY Y w (some ⟨q,o + s * Y.k,none⟩) (m - s) p ((l.take m).drop s) :=
 ⟨by rw [List.length_drop,List.length_take];omega,hp,hp2,(fun e => by cases e),fun x hx => by
  cases hx
  refine .inr ⟨q,_,rfl,hq,fun i y hy j u hu => ?_⟩;rw [List.getElem?_drop,List.getElem?_take] at hy
  split at hy
  ·have:=hl _ _ hy j u hu
   rw [show o + s * Y.k + i * Y.k + j = o + (s + i) * Y.k + j by rw [Nat.add_mul];omega]
   exact this
  ·cases hy⟩
theorem lay_one (D : List En) (a : Option Addr) (n c : Nat) (w : World) (h : SlY yE w a n c D) (hb : n * 48 ≤ 140737488355328) (T : TypeId) :
  Calls Tryz.prog 142 #[.slice (some ⟨w.heap.size,0,none⟩) 1 1] (w.alloc (.cells #[.slice a n c] T)) fun e w' => e = .returned (.slice (some ⟨w.heap.size + 1,0,none⟩) n n)∧OwnY yE (w.heap.size + 1) w' (.slice (some ⟨w.heap.size + 1,0,none⟩) n n) D∧Below (w.heap.size + 1) (w.alloc (.cells #[.slice a n c] T)) w':=by
 have hln:=h.len
 have hx : tot [(⟨a,c,D⟩ : SV En)] = n:=by simp [tot,hln]
 have hy : flat [(⟨a,c,D⟩ : SV En)] = D:=by simp [flat]
 have:=lay_any [⟨a,c,D⟩] (some ⟨w.heap.size,0,none⟩) 1 1 (w.alloc (.cells #[.slice a n c] T)) (by
  have:=sl_box (Y:=zE) w ⟨a,c,D⟩ T;simp only [zE,yS,hln] at this
  exact this) (fun x hx => by
   simp at hx
   subst hx
   dsimp only
   rw [hln]
   exact h.later (BR.alloc LR _)) (by rw [hx];omega)
 rw [hx,hy,World.size_alloc] at this
 exact this
structure Ea (w : World) (s n : Nat) (D : List En) (g k f : Nat) (w' : World) : Prop where
 gb : w.heap.size ≤ g∧w.heap.size ≤ k∧w.heap.size ≤ f
 lt : g < w'.heap.size∧k < w'.heap.size∧f < w'.heap.size
 kc : w'.cell? ⟨k,0,none⟩ = some (.slice (some ⟨g,0,none⟩) (n - s) (n - s))
 fc : w'.cell? ⟨f,0,none⟩ = some (.int .i64 ((s : Int) + 1))
 row : OwnY yE w.heap.size w' (.slice (some ⟨g,0,none⟩) (n - s) (n - s)) (D.drop s)
 bel : Below w.heap.size w w'
theorem eachO_any (D : List En) (a : Option Addr) (n c : Nat) (fr : Int) (s : Nat) (hs : s ≤ n) (hmm : min (max fr 1) ((n : Int) + 1) = (s : Int) + 1) (w : World) (h : SlY yE w a n c D) (hb : n * 48 ≤ 140737488355328) :
  Calls Tryz.prog 112 #[.slice a n c,.int .i64 fr] w fun e w' => ∃ g k f,e = .returned (.func (.func 143) #[] #[.pointer (some ⟨k,0,none⟩),.pointer (some ⟨f,0,none⟩)])∧Ea w s n D g k f w':=by
 have hmx:=h.max;have hcp:=h.cap;have hln:=h.len
 unfold maxLen at hmx
 obtain ⟨WF,hWF⟩ : ∃ WF,w.alloc (Obj.cells #[Value.int IntKind.i64 ((s : Int) + 1)] 3) = WF:=⟨_,rfl⟩
 have zF : WF.heap.size = w.heap.size + 1:=by rw [← hWF];simp
 have bF : Below w.heap.size w WF:=by rw [← hWF];exact BR.alloc LR _
 have cF : WF.cell? ⟨w.heap.size,0,none⟩ = some (.int .i64 ((s : Int) + 1)):=by rw [← hWF];exact World.cell?_alloc_at _ _ _ _ rfl
 have HF:=hide hWF
 have fin : ∀ (w2 : World),OwnY yE (WF.heap.size + 1) w2 (.slice (some ⟨WF.heap.size + 1,0,none⟩) (n - s) (n - s)) (D.drop s) → Below WF.heap.size WF w2 → WF.heap.size + 1 < w2.heap.size → Ea w s n D (WF.heap.size + 1) w2.heap.size w.heap.size (w2.alloc (Obj.cells #[.slice (some ⟨WF.heap.size + 1,0,none⟩) (n - s) (n - s)] 25)):=fun w2 o2 b2 z2 => by
  refine ⟨by omega,by simp;omega,World.cell?_alloc_at _ _ _ _ rfl,?_,(o2.low (by omega)).alloc _,?_⟩
  ·rw [World.cell?_alloc_past _ _ _ (by show w.heap.size < w2.heap.size;omega)]
   exact (b2.cell (p:=⟨w.heap.size,0,none⟩) (by show w.heap.size < _;omega)).trans cF
  ·exact (bF.trans (b2.mono (by omega))).alloc (by omega) _
 have HI:=hide fin;have HZ:=hide zF;clear hWF fin zF
 by_cases hn : s = n
 ·subst hn
  have hd : D.drop s = []:=List.drop_of_length_le (by omega)
  have HE : Hid (∀ x,SlY yE WF x 0 0 []):=fun x => SlY.empty yE WF x
  have H0 : Hid (s - s = 0):=Nat.sub_self s
  have HJ : Hid (∀ (w2 : World),OwnY yE (WF.heap.size + 1) w2 (.slice (some ⟨WF.heap.size + 1,0,none⟩) 0 0) [] → Below WF.heap.size WF w2 → WF.heap.size + 1 < w2.heap.size → Ea w s s D (WF.heap.size + 1) w2.heap.size w.heap.size (w2.alloc (Obj.cells #[.slice (some ⟨WF.heap.size + 1,0,none⟩) 0 0] 25))):=by
   have:=HI.out;rw [hd,H0.out] at this
   exact this
  clear hd HI;have CC:=hide (fun (x : Option Addr) (T : TypeId) => lay_one [] x 0 0 WF (HE.out x) (by omega) T)
  cases a with
  | none =>
   obtain ⟨rfl,rfl⟩:=h.nil rfl;clear h hln
   have hm0 : min (max fr 1) 1 = 1:=by omega
   have HF1 : Hid (w.alloc (Obj.cells #[Value.int IntKind.i64 1] 3) = WF):=HF.out;clear hmm HF
   go_enter Tryz.func112,Tryz.ntmps112
   go_wp2_with fail
   rw [HF1.out,← HZ.out];refine (CC.out none _).mono ?_;rintro e w2 ⟨rfl,o2,b2⟩;have z2:=(o2.blk _ rfl).2;have b3 : Below WF.heap.size WF w2:=(BR.alloc LR _).trans (b2.mono (Nat.le_succ _));clear CC HF1 HZ
   go_wp2
   go_ret
   exact ⟨_,_,_,rfl,HJ.out w2 o2 b3 z2⟩
  | some x =>
   clear h hln
   go_enter Tryz.func112,Tryz.ntmps112
   go_wp2_with fail
   rw [HF.out,← HZ.out];refine (CC.out (some x) _).mono ?_;rintro e w2 ⟨rfl,o2,b2⟩;have z2:=(o2.blk _ rfl).2;have b3 : Below WF.heap.size WF w2:=(BR.alloc LR _).trans (b2.mono (Nat.le_succ _));clear CC HF HZ
   go_wp2
   go_ret
   exact ⟨_,_,_,rfl,HJ.out w2 o2 b3 z2⟩
 ·obtain ⟨q,o,rfl,hq,hl⟩:=h.place (by rintro rfl;simp at hln;omega)
  have h1 : s < n:=by omega
  have hS : SlY yE w (some ⟨q,o + s * 5,none⟩) (n - s) (n - s) (D.drop s):=by
   have:=SlY.cut (c:=c) hq hl hln s n (n - s) h1 LR LR (by unfold maxLen;omega);rw [List.take_of_length_le (by omega)] at this
   exact this
  have CC:=hide (lay_one (D.drop s) (some ⟨q,o + s * 5,none⟩) (n - s) (n - s) WF (hS.later bF) (by omega) 25);clear h hS hl hln
  go_enter Tryz.func112,Tryz.ntmps112
  go_wp2_with fail
  rw [HF.out,← HZ.out];refine CC.out.mono ?_;rintro e w2 ⟨rfl,o2,b2⟩;have z2:=(o2.blk _ rfl).2;have b3 : Below WF.heap.size WF w2:=(BR.alloc LR _).trans (b2.mono (Nat.le_succ _));clear CC HF HZ
  go_wp2
  go_ret
  exact ⟨_,_,_,rfl,HI.out w2 o2 b3 z2⟩
theorem eachO_one (D : List En) (a : Option Addr) (n c : Nat) (w : World) (h : SlY yE w a n c D) (hb : n * 48 ≤ 140737488355328) :
  Calls Tryz.prog 112 #[.slice a n c,.int .i64 1] w fun e w' => ∃ g k f,e = .returned (.func (.func 143) #[] #[.pointer (some ⟨k,0,none⟩),.pointer (some ⟨f,0,none⟩)])∧Ea w 0 n D g k f w' :=
 eachO_any D a n c 1 0 (Nat.zero_le _) (by show min (max 1 1) _ = (0 : Int) + 1;omega) w h hb
theorem up_row {S : Nat → Prop} {w W W' : World} {row : Option Nat} (h : Upd S w W) (hg : W.grownBy W' row) (hr : ∀ r,row = some r → r = w.heap.size + 1) : Upd S w W':=h.grownBy hg (fun k e hk => by have:=hr k e;omega)
end Go.Proofs.YtpcgnjpodnebpaaGreatDoor
namespace Go.Proofs.YtpcgnjpodnebpaaGreatDoor
open Go.RowKit Go.Maps Go.Shelf
open Classical
variable {P : Program} {ops : Array Oper} {md : Region.Mode} {C : World → Prop}
def noDefer (o : Oper) : Bool:=match o.op with | .defer _ => false | _ => true
theorem noDefer_ne {o : Oper} (h : noDefer o = true) (c : Call) : o.op ≠ .defer c:=fun e => by simp [noDefer,e] at h
theorem opIn_of_quiet {l n : Nat} {o : Oper} {a : Act} {K : Act → Prop} {K' : Act → World → Prop} {Q' : Exit → Act → World → Prop} {w : World} (hnd : noDefer o = true) (hw : C w) (h : ∀ a w',C w' → K a → K' a w')
  (hh : o.quiet P a C K) : o.wpIn (Fence.wide.inRound l) n P a w K' Q':=by
 obtain ⟨v,h1,h2⟩:=hh;have h3:=h1 w hw
 unfold Oper.quietAt at h3
 unfold Oper.wpIn
 refine ⟨fun _ _ => trivial,?_⟩;rw [Fence.inRound_round,Oper.semAt_some _ _ _ (noDefer_ne hnd)]
 generalize (execOp a.eval o).run P w = r at *
 cases r with
 | ok x w' =>
  cases x <;> simp only [Oper.quietUpon] at h3 <;> simp only [Oper.uponIn]
  case value u =>
   obtain ⟨e1,e2⟩:=h3;rw [e1,e2]
   exact h _ _ hw h2
  case skip =>
   obtain ⟨e1,e2⟩:=h3;rw [e1,← e2]
   exact h _ _ hw h2
  case enter f args =>
   obtain ⟨e1,hc⟩:=h3;rw [e1];refine ⟨fun h => (by cases h),CallsIn.inRound l (callsIn_wide.2 (hc.mono fun e w'' hq => ?_))⟩;obtain ⟨he,hw''⟩:=hq;subst he
   exact h _ _ hw'' h2
 | halt x w' => simp only [Oper.quietUpon] at h3
theorem wpOpIn_of_qOpR {l n i : Nat} {a : Act} {K : Act → Prop} {K' : Act → World → Prop} {Q' : Exit → Act → World → Prop} {w : World} (hnd : ∀ (i : Nat) (o : Oper),ops[i]? = some o → noDefer o = true) (hC : C w) (h : ∀ a w',C w' → K a → K' a w')
  (hh : qOp P ops C i K a) : wpOpIn (Fence.wide.inRound l) n P ops Q' i K' a w:=by
 unfold qOp at hh
 unfold wpOpIn
 split
 ·rename_i ho;simp only [ho] at hh;exact h _ _ hC hh
 ·rename_i o ho
  simp only [ho] at hh
  split
  ·rename_i hw;simp only [hw,if_true] at hh;exact opIn_of_quiet (hnd _ _ ho) hC h hh
  ·rename_i hw;simp only [hw] at hh;exact ⟨fun _ _ => trivial,h _ _ hC hh⟩
theorem wpAnyIn_of_quietR {l n : Nat} {Q : Act → Prop} {Q' : Exit → Act → World → Prop} (hnd : ∀ (i : Nat) (o : Oper),ops[i]? = some o → noDefer o = true) (hQ : ∀ a w,C w → Q a → Q' .normal a w) : ∀ (fuel : Nat) (listed : Array Bool) (a : Act) (w : World),C w →
  wpAnyQ P md ops C Q fuel listed a → wpAnyIn (Fence.wide.inRound l) n P md ops Q' fuel listed a w
 | 0,_,_,_,hw,h => ⟨h.1,hQ _ _ hw h.2⟩
 | fuel + 1,_,_,_,hw,h => ⟨fun h0 => hQ _ _ hw (h.1 h0),fun i hi => wpOpIn_of_qOpR hnd hw (fun a' w' hw' => wpAnyIn_of_quietR hnd hQ fuel _ a' w' hw') (h.2 i hi)⟩
theorem region_round {l n id : Nat} {Q : Exit → Act → World → Prop} {a : Act} {w : World} {os : List Oper} (hm : P.follows .mixedOrders = true) (hB : Region.lexB .any os.toArray = true) (hnd : os.all noDefer = true)
  (h : wpQuiet P os.toArray (fun w' => ∃ n,w' = w.drewN n) (fun a' => ∀ w',(∃ n,w' = w.drewN n) → Q .normal a' w') os a) : (Code.region id os.toArray true).wpIn (Fence.wide.inRound l) n P Q a w:=by
 simp only [Region.lexB,Bool.and_eq_true] at hB;refine wpIn_region_any hm (wpAnyIn_of_quietR (C:=fun w' => ∃ n,w' = w.drewN n) (Q:=fun a' => ∀ w',(∃ n,w' = w.drewN n) → Q .normal a' w') ?_ (fun _ w' hw' h => h w' hw') _ _ _ _ ⟨1,rfl⟩ ?_)
 ·intro i o ho
  rw [List.getElem?_toArray] at ho
  exact List.all_eq_true.1 hnd o (List.mem_of_getElem? ho)
 ·have:=wpAnyQ_lex (C:=fun w' => ∃ n,w' = w.drewN n) (md:=.any) hB.1 os.toArray.toList 0 (Array.replicate os.toArray.size false) a (by simp) (by simpa using hB.2) (by simpa using h)
  simpa using this
attribute [local go_sem] Oper.semAt_some
def ckA : List En → List En → Int × Int
 | _,[] => (0,0)
 | past,e :: r => if er past e ≠ 0 then (er past e,(past.length : Int) + 1) else ckA (past ++ [e]) r
def chk (L : List En) (room : Int) : Int × Int:=if room < 1 ∨ 256 < room then (3,0) else if room < L.length then (60,room) else ckA [] L
theorem ckA_at {L : List En} {j : Nat} {e : En} (h : L[j]? = some e) : ckA (L.take j) (L.drop j) = if er (L.take j) e ≠ 0 then (er (L.take j) e,(j : Int) + 1) else ckA (L.take (j + 1)) (L.drop (j + 1)):=by
 have hj:=(List.getElem?_eq_some_iff.1 h).1;have he:=(List.getElem?_eq_some_iff.1 h).2
 have hl : (L.take j).length = j:=by rw [List.length_take];omega
 rw [List.drop_eq_getElem_cons hj,he,ckA,List.take_add_one,h,hl]
 rfl
theorem ckA_end (L : List En) : ckA (L.take L.length) (L.drop L.length) = (0,0):=by simp [ckA]
theorem checkent_any (C N k s : Int) (v : ByteArray) (hf : (⟨k,s,v⟩ : Opn).fits) (w : World) :
  Calls Tryz.prog 113 #[.agg #[.int .i64 C,.int .i64 N,.int .i64 k,.int .i64 s,.string v]] w fun e w' => e = .returned (.int .i64 (ckE ⟨C,N,⟨k,s,v⟩⟩))∧Below w.heap.size w w':=by
 have cc:=fun W => check_any ⟨k,s,v⟩ hf W
 dsimp only [Opn.val] at cc
 have bA:=(Below.refl w.heap.size w).alloc LR (.cells #[.int .i64 C,.int .i64 N,.int .i64 k,.int .i64 s,.string v] 47)
 by_cases h1 : C < 0
 ·have hE : Hid (ckE ⟨C,N,⟨k,s,v⟩⟩ = 62):=by show _ = _;simp [ckE,h1]
  have d1 : decide (C < 0) = true:=by simpa using h1
  go_enter Tryz.func113,Tryz.ntmps113
  go_wp2
  go_ret
  exact ⟨ret_int hE.out.symm,bA⟩
 ·by_cases h2 : 16 ≤ C
  ·have hE : Hid (ckE ⟨C,N,⟨k,s,v⟩⟩ = 62):=by show _ = _;simp [ckE,h2]
   go_enter Tryz.func113,Tryz.ntmps113
   go_wp2
   go_ret
   exact ⟨ret_int hE.out.symm,bA⟩
  ·by_cases h3 : N < 1
   ·have hE : Hid (ckE ⟨C,N,⟨k,s,v⟩⟩ = 63):=by show _ = _;simp [ckE,h1,h2,h3]
    go_enter Tryz.func113,Tryz.ntmps113
    go_wp2
    go_ret
    exact ⟨ret_int hE.out.symm,bA⟩
   ·have hE : Hid (ckE ⟨C,N,⟨k,s,v⟩⟩ = ck k s v):=by show _ = _;simp [ckE,h1,h2,h3]
    generalize ck k s v = x at *
    go_enter Tryz.func113,Tryz.ntmps113
    go_wp2_with (go_at_call 144;refine (cc _).mono ?_;rintro e w2 ⟨rfl,b2⟩)
    go_ret
    exact ⟨ret_int hE.out.symm,bA.trans (b2.mono (by simp))⟩
def gml (L : List En) : List Value:=(List.range 16).map fun (c : Nat) => .int .i64 (gm L (c : Int))
theorem gml_get (L : List En) {c : Nat} (h : c < 16) : (gml L)[c]? = some (.int .i64 (gm L (c : Int))):=by simp [gml,h]
theorem gml_len (L : List En) : (gml L).length = 16:=by simp [gml]
theorem gml_set {L : List En} {e : En} {c : Nat} (hc : e.c = (c : Int)) (h16 : c < 16) (hn : gm L e.c < e.n) : (gml L).set c (.int .i64 e.n) = gml (L ++ [e]):=by
 apply List.ext_getElem?
 intro i
 by_cases h : i < 16
 ·rw [gml_get _ h,gm_snoc,List.getElem?_set]
  by_cases hs : c = i
  ·subst hs
   rw [hc] at hn ⊢
   have : max (gm L (c : Int)) e.n = e.n:=by omega
   simp [gml_len,h,this]
  ·have : ¬ (e.c = (i : Int)):=by rw [hc];omega
   simp [hs,this,gml_get L h]
 ·rw [List.getElem?_eq_none (by rw [List.length_set,gml_len];omega),List.getElem?_eq_none (by rw [gml_len];omega)]
theorem setc_other {w : World} {b b' i j : Nat} {u x : Value} (h : w.cell? ⟨b,i,none⟩ = some x) (hne : b ≠ b') : (w.setCell ⟨b',j,none⟩ u).cell? ⟨b,i,none⟩ = some x :=
 (World.cell?_of_block (a:=⟨b,i,none⟩) (Below.heap_setCell w ⟨b',j,none⟩ u b hne)).trans h
def ChkI (w4 : World) (N : Nat) (L : List En) (X : Int × Int) (i : Nat) (W : World) : Prop:=Upd (· = N) w4 W∧Arr W N 174 (gml (L.take i))∧X = ckA (L.take i) (L.drop i)
theorem checkO_any (L : List En) (a : Option Addr) (n c : Nat) (room : Int) (w : World) (h : SlY yE w a n c L) (hf : ∀ e ∈ L,e.fits) :
  Calls Tryz.prog 71 #[.slice a n c,.int .i64 room] w fun e w' => e = .returned (.tuple #[.int .i64 (chk L room).1,.int .i64 (chk L room).2])∧Below w.heap.size w w':=by
 have hln:=h.len;have hcp:=h.cap;have hmx:=h.max
 unfold maxLen at hmx
 have H:=hide h;have HF:=hide hf;clear h hf;subst hln
 by_cases h1 : room < 1
 ·have hE : Hid (chk L room = (3,0)):=by show _ = _;simp [chk,h1]
  rw [hE.out]
  have d1 : decide (room < 1) = true:=by simpa using h1
  go_enter Tryz.func71,Tryz.ntmps71
  go_wp2
  refine bodyPost_ret (v:=.tuple #[.int .i64 3,.int .i64 0]) (by simp [results,Tryz.f71,go_sem]) rfl ⟨rfl,(BR.alloc LR _).alloc (by simp) _⟩
 ·by_cases h2 : 256 < room
  ·have hE : Hid (chk L room = (3,0)):=by show _ = _;simp [chk,h2]
   rw [hE.out]
   go_enter Tryz.func71,Tryz.ntmps71
   go_wp2
   refine bodyPost_ret (v:=.tuple #[.int .i64 3,.int .i64 0]) (by simp [results,Tryz.f71,go_sem]) rfl ⟨rfl,(BR.alloc LR _).alloc (by simp) _⟩
  ·by_cases h3 : room < (L.length : Int)
   ·have hE : Hid (chk L room = (60,room)):=by show _ = _;simp [chk,h1,h2,h3]
    rw [hE.out]
    go_enter Tryz.func71,Tryz.ntmps71
    go_wp2
    refine bodyPost_ret (v:=.tuple #[.int .i64 60,.int .i64 room]) (by simp [results,Tryz.f71,go_sem]) rfl ⟨rfl,(BR.alloc LR _).alloc (by simp) _⟩
   ·have hE : Hid (chk L room = ckA (L.take 0) (L.drop 0)):=by show _ = _;simp [chk,h1,h2,h3]
    have hb : L.length * 48 ≤ 140737488355328:=by omega
    refine (callsIn_wide (n:=4)).1 ?_;refine callsIn_of_wp_marks Tryz.func71 rfl trivial ?_ rfl;simp only [Tryz.ntmps71,List.size_toArray,List.length_cons,List.length_nil,Nat.reduceAdd,Nat.reduceSub,Array.replicate_succ,Array.replicate_zero,List.push_toArray,List.append_toArray,List.nil_append,List.cons_append]
    generalize chk L room = X at *
    gi_wp2_with fail
    refine ⟨trivial,?_⟩
    obtain ⟨w3,hw3⟩ : ∃ w3,(((w.alloc (Obj.cells #[Value.int IntKind.i64 0] 37)).alloc (Obj.cells #[Value.int IntKind.i64 0] 3)).alloc (Obj.cells #[Value.int IntKind.i64 0,Value.int IntKind.i64 0,Value.int IntKind.i64 0,Value.int IntKind.i64 0,Value.int IntKind.i64 0,Value.int IntKind.i64 0,Value.int IntKind.i64 0,Value.int IntKind.i64 0,Value.int IntKind.i64 0,Value.int IntKind.i64 0,Value.int IntKind.i64 0,Value.int IntKind.i64 0,Value.int IntKind.i64 0,Value.int IntKind.i64 0,Value.int IntKind.i64 0,Value.int IntKind.i64 0] 174)) = w3:=⟨_,rfl⟩
    rw [hw3]
    have b3 : Below w.heap.size w w3:=by rw [← hw3];exact ((BR.alloc LR _).alloc (by simp) _).alloc (by simp;omega) _
    have z3 : w3.heap.size = w.heap.size + 3:=by rw [← hw3];simp
    have c0 : w3.cell? ⟨w.heap.size,0,none⟩ = some (.int .i64 0):=by subst hw3;go_simp
    have c1 : w3.cell? ⟨w.heap.size + 1,0,none⟩ = some (.int .i64 0):=by subst hw3;go_simp
    have f0 : w3.frozen? ⟨w.heap.size,0,none⟩ = false:=by subst hw3;go_simp
    have f1 : w3.frozen? ⟨w.heap.size + 1,0,none⟩ = false:=by subst hw3;go_simp
    have ar : Arr w3 (w.heap.size + 1 + 1) 174 (gml (L.take 0)):=by
     have:=Arr.new ((w.alloc (Obj.cells #[Value.int IntKind.i64 0] 37)).alloc (Obj.cells #[Value.int IntKind.i64 0] 3)) 174 16 (.int .i64 0) (by omega);rw [World.size_alloc,World.size_alloc] at this;rw [← hw3]
     exact this
    clear hw3;refine (callsIn_wide.2 (eachO_one L a L.length c w3 (H.out.later b3) hb)).mono ?_;rintro e w4 ⟨g,k,f,rfl,ea⟩;have d0:=(ea.bel.cell (p:=⟨w.heap.size,0,none⟩) (by show w.heap.size < _;omega)).trans c0;have d1:=(ea.bel.cell (p:=⟨w.heap.size + 1,0,none⟩) (by show w.heap.size + 1 < _;omega)).trans c1;have g0:=(ea.bel.frozen (p:=⟨w.heap.size,0,none⟩) (by show w.heap.size < _;omega)).trans f0;have g1:=(ea.bel.frozen (p:=⟨w.heap.size + 1,0,none⟩) (by show w.heap.size + 1 < _;omega)).trans f1;have ar4:=hide (ar.later ea.bel);have b4 : Below w.heap.size w w4:=b3.trans (ea.bel.mono (by omega))
    have z4 : w.heap.size + 3 ≤ w4.heap.size:=by have:=ea.bel.size;omega
    clear c0 c1 f0 f1 b3 ar;obtain ⟨gb,lt,kc,fc,row,_⟩:=ea;obtain ⟨l1,l2,l3⟩:=lt
    have lie : LieY yE w4 g 0 L:=fun i x hx j u hu => by rw [Nat.zero_add];exact row.cell kE i x hx j u hu
    have hN : Hid (g ≠ w.heap.size + 1 + 1∧k ≠ w.heap.size + 1 + 1∧f ≠ w.heap.size + 1 + 1):=by show _∧_;omega
    clear z3 row;have HB4:=hide b4;have HZ4:=hide z4;have HL:=hide lie;clear b4 z4 lie gb
    gi_wp2
    refine over_each (n:=4) (by omega) L 1 k f g rfl rfl (by omega) (by omega) hb l2 l3 l1 kc fc HL.out
     (ChkI w4 (w.heap.size + 1 + 1) L X)
     (fun cd i W => cd = .ret∧(W.cell? ⟨w.heap.size,0,none⟩ = some (.int .i64 X.1)∧W.cell? ⟨w.heap.size + 1,0,none⟩ = some (.int .i64 X.2))∧Upd (fun k => w.heap.size ≤ k) w4 W)
     (fun i W W' row hi hg hr => ⟨up_row hi.1 hg hr,hi.2.1.upd (S:=fun k => row = some k) (gupd hg (fun _ e => e)) (fun e => by have:=hr _ e;have:=HZ4.out;omega),hi.2.2⟩)
     (fun cd i W W' hi hg => ⟨hi.1,⟨gcell hg hi.2.1.1 (fun e => by injection e with e;have:=HZ4.out;omega),gcell hg hi.2.1.2 (fun e => by injection e with e;have:=HZ4.out;omega)⟩,up_row hi.2.2 hg (fun r e => by cases e;rfl)⟩)
     (fun i W hi => ⟨hi.1.size,fun j hj => hi.1.block j (by rcases hj with rfl | rfl | rfl <;> assumption) (by have:=hN.out;rcases hj with rfl | rfl | rfl <;> omega)⟩)
     ⟨Upd.refl _ _,ar4.out,hE.out⟩ ?round ?done ?stop
    case round =>
     rintro i x W hx ⟨u,hA,hf⟩ hlt;have hil:=(List.getElem?_eq_some_iff.1 hx).1;have hst:=ckA_at hx
     have htk : L.take (i + 1) = L.take i ++ [x]:=by rw [List.take_add_one,hx];rfl
     have hfx:=(HF.out x (List.mem_of_getElem? hx)).ow
     have her : er (L.take i) x = if ckE x ≠ 0 then ckE x else if tw (L.take i) x then 64 else 0:=rfl
     have HST:=hide hst;have HTK:=hide htk;have HER:=hide her;clear hst htk her hx;obtain ⟨xc,xn,⟨ok,os,ov⟩⟩:=x
     dsimp only [En.val]
     have HA1:=hide hA;have HU:=hide u;have HLT:=hide hlt;have HF1:=hide hf;clear hA u hlt hf
     gi_wp2
     have zl:=HZ4.out;have hlt:=HLT.out;have u:=HU.out;have us:=u.size;refine ⟨⟨⟨u.alloc _,HA1.out.later (BR.alloc LR _),HF1.out⟩,Below.heap_alloc _ _ _ (by omega),Below.heap_alloc _ _ _ hlt⟩,?_⟩;rintro W2 ⟨u2,hA2,hf2⟩ hg2;have HA2:=hide hA2;clear hA2 HA1;have e0 : W2.cell? ⟨W.heap.size,0,none⟩ = some (.int .i64 xc):=gcell hg2 (World.cell?_alloc_at _ _ _ _ rfl) (fun e => by injection e with e;omega);have e1 : W2.cell? ⟨W.heap.size,1,none⟩ = some (.int .i64 xn):=gcell hg2 (World.cell?_alloc_at _ _ _ _ rfl) (fun e => by injection e with e;omega);have e2 : W2.cell? ⟨W.heap.size,2,none⟩ = some (.int .i64 ok):=gcell hg2 (World.cell?_alloc_at _ _ _ _ rfl) (fun e => by injection e with e;omega);have e3 : W2.cell? ⟨W.heap.size,3,none⟩ = some (.int .i64 os):=gcell hg2 (World.cell?_alloc_at _ _ _ _ rfl) (fun e => by injection e with e;omega);have e4 : W2.cell? ⟨W.heap.size,4,none⟩ = some (.string ov):=gcell hg2 (World.cell?_alloc_at _ _ _ _ rfl) (fun e => by injection e with e;omega)
     have hW2 : W.heap.size < W2.heap.size:=by have:=hg2.size;simp at this;omega
     have cc:=hide (fun W => checkent_any xc xn ok os ov hfx W);clear hfx
     gi_wp2_with fail
     refine ⟨trivial,?_⟩;refine (CallsIn.inRound _ (callsIn_wide.2 (cc.out _))).mono ?_;rintro e w5 ⟨rfl,b5⟩;have HU5:=hide (u2.trans (Upd.of_below b5));have HA5:=hide (HA2.out.later b5);have e0:=(b5.cell (p:=⟨W.heap.size,0,none⟩) hW2).trans e0;have e1:=(b5.cell (p:=⟨W.heap.size,1,none⟩) hW2).trans e1;have i0:=(HU5.out.cell (p:=⟨w.heap.size,0,none⟩) (by show w.heap.size < _;omega) (by show w.heap.size ≠ _;omega)).trans d0;have j0:=(HU5.out.frozen (p:=⟨w.heap.size,0,none⟩) (by show w.heap.size < _;omega) (by show w.heap.size ≠ _;omega)).trans g0;have i1:=(HU5.out.cell (p:=⟨w.heap.size + 1,0,none⟩) (by show w.heap.size + 1 < _;omega) (by show w.heap.size + 1 ≠ _;omega)).trans d1;have j1:=(HU5.out.frozen (p:=⟨w.heap.size + 1,0,none⟩) (by show w.heap.size + 1 < _;omega) (by show w.heap.size + 1 ≠ _;omega)).trans g1
     have HZ0 : Hid (w5.heap[w4.heap.size]? = W2.heap[w4.heap.size]?∧w5.heap[w4.heap.size + 1]? = W2.heap[w4.heap.size + 1]?):=⟨b5.block _ (by omega),b5.block _ (by omega)⟩
     have HD : Hid (w4.heap.size ≠ w.heap.size∧w4.heap.size ≠ w.heap.size + 1∧w4.heap.size ≠ w.heap.size + 1 + 1∧w4.heap.size + 1 ≠ w.heap.size∧w4.heap.size + 1 ≠ w.heap.size + 1∧w4.heap.size + 1 ≠ w.heap.size + 1 + 1):=by show _∧_;omega
     have hv : Hid ((1 : Int) + (i : Int) = (i : Int) + 1):=by show _ = _;omega
     have RET : Hid (∀ v : Int,X = (v,(i : Int) + 1) → ∀ w6 : World,Upd (· = w.heap.size + 1 + 1) w4 w6 → (w6.heap[w4.heap.size]? = W2.heap[w4.heap.size]?∧w6.heap[w4.heap.size + 1]? = W2.heap[w4.heap.size + 1]?) → w6.cell? ⟨w.heap.size,0,none⟩ = some (.int .i64 0) → w6.cell? ⟨w.heap.size + 1,0,none⟩ = some (.int .i64 0) → ∀ af,eachPost (ChkI w4 (w.heap.size + 1 + 1) L X)
  (fun cd i W => cd = .ret∧(W.cell? ⟨w.heap.size,0,none⟩ = some (.int .i64 X.1)∧W.cell? ⟨w.heap.size + 1,0,none⟩ = some (.int .i64 X.2))∧Upd (fun k => w.heap.size ≤ k) w4 W) w4.heap.size i W2 Exit.ret af ((w6.setCell ⟨w.heap.size,0,none⟩ (Value.int .i64 v)).setCell ⟨w.heap.size + 1,0,none⟩ (Value.int .i64 (1 + (i : Int))))):=by
      intro v hX w6 u6 hz6 k0 k1 af;refine ⟨⟨?_,?_⟩,rfl,⟨?_,?_⟩,?_⟩
      ·rw [Below.heap_setCell _ _ _ _ HD.out.2.1,Below.heap_setCell _ _ _ _ HD.out.1]
       exact hz6.1
      ·rw [Below.heap_setCell _ _ _ _ HD.out.2.2.2.2.1,Below.heap_setCell _ _ _ _ HD.out.2.2.2.1]
       exact hz6.2
      ·rw [hX]
       exact setc_other (setc_eq k0) (by omega)
      ·rw [hX,← hv.out]
       exact setc_eq (setc_other k1 (by omega))
      ·refine Upd.setCell (S:=fun k => w.heap.size ≤ k) (Upd.setCell (S:=fun k => w.heap.size ≤ k) (u6.mono (fun k _ h => ?_)) (.inl ?_) _) (.inl ?_) _
       ·rw [h];omega
       ·exact LR
       ·show w.heap.size ≤ w.heap.size + 1;omega
     clear e2 e3 e4 hg2 u2 HA2 cc b5
     have hckz:=fun h => ckE_zero (e:=⟨xc,xn,⟨ok,os,ov⟩⟩) h
     have HCZ:=hide hckz;clear hckz
     generalize hx : ckE ⟨xc,xn,⟨ok,os,ov⟩⟩ = x at *
     have HX:=hide hx;clear hx
     by_cases hx0 : x = 0
     ·subst hx0
      obtain ⟨p0,p1,p2,_⟩:=HCZ.out rfl
      dsimp only at p0 p1 p2
      obtain ⟨cN,rfl⟩ : ∃ cN : Nat,xc = (cN : Int):=⟨xc.toNat,by omega⟩
      have hc16 : cN < 16:=by omega
      have a0:=HA5.out.cell (gml_get (L.take i) hc16);have af:=HA5.out.free cN;have htw:=tw_iff ⟨cN,xn,⟨ok,os,ov⟩⟩ p2 (L.take i)
      dsimp only at htw
      have HTW:=hide htw
      have HGS : Hid (gm (L.take i) (cN : Int) < xn → (gml (L.take i)).set cN (.int .i64 xn) = gml (L.take i ++ [⟨cN,xn,⟨ok,os,ov⟩⟩])):=fun h => gml_set (e:=⟨cN,xn,⟨ok,os,ov⟩⟩) rfl hc16 h
      clear htw HCZ p0 p1
      generalize gm (L.take i) (cN : Int) = G at *
      by_cases hle : xn ≤ G
      ·have hX : Hid (X = (64,(i : Int) + 1)):=by
        show _ = _
        rw [hf2,HST.out,HER.out]
        simp [HTW.out,hle]
       gi_wp2
       refine region_round (by kernel_rfl) (by kernel_rfl) rfl ?_
       repeat (go_big_quiet_step (fail))
       refine wpQuiet_nil ?_;intro _ hw';obtain ⟨nq,hw''⟩:=hw';subst hw''
       gi_wp2
       exact RET.out 64 hX.out (w5.drewN nq) (HU5.out.drewN nq) HZ0.out i0 i1 _
      ·have hX : Hid (X = ckA (L.take (i + 1)) (L.drop (i + 1))):=by
        show _ = _
        rw [hf2,HST.out,HER.out]
        simp [HTW.out,hle]
       have hlt2 : G < xn:=by omega
       gi_wp2
       refine region_round (by kernel_rfl) (by kernel_rfl) rfl ?_
       repeat (go_big_quiet_step (fail))
       refine wpQuiet_nil ?_;intro _ hw';obtain ⟨nq,hw''⟩:=hw';subst hw''
       gi_wp2
       refine ⟨⟨?_,?_⟩,?_,?_,hX.out⟩
       ·rw [Below.heap_setCell _ _ _ _ HD.out.2.2.1]
        exact HZ0.out.1
       ·rw [Below.heap_setCell _ _ _ _ HD.out.2.2.2.2.2]
        exact HZ0.out.2
       ·exact Upd.setCell (S:=(· = w.heap.size + 1 + 1)) (HU5.out.drewN nq) (.inl rfl) _
       ·rw [HTK.out,← HGS.out hlt2]
        exact Arr.set (HA5.out.later (belN BR nq)) cN _
     ·have hX : Hid (X = (x,(i : Int) + 1)):=by
       show _ = _
       rw [hf2,HST.out,HER.out]
       simp [hx0]
      gi_wp2
      exact RET.out x hX.out w5 HU5.out HZ0.out i0 i1 _
    case done =>
     rintro W ⟨u,hA,hf⟩ hK;have zl:=HZ4.out;rw [ckA_end] at hf;have i0:=(u.cell (p:=⟨w.heap.size,0,none⟩) (by show w.heap.size < _;omega) (by show w.heap.size ≠ _;omega)).trans d0;have j0:=(u.frozen (p:=⟨w.heap.size,0,none⟩) (by show w.heap.size < _;omega) (by show w.heap.size ≠ _;omega)).trans g0;have i1:=(u.cell (p:=⟨w.heap.size + 1,0,none⟩) (by show w.heap.size + 1 < _;omega) (by show w.heap.size + 1 ≠ _;omega)).trans d1;have j1:=(u.frozen (p:=⟨w.heap.size + 1,0,none⟩) (by show w.heap.size + 1 < _;omega) (by show w.heap.size + 1 ≠ _;omega)).trans g1;clear hA
     gi_wp2
     have hK2 : ((W.setCell ⟨w.heap.size,0,none⟩ (Value.int IntKind.i64 0)).setCell ⟨w.heap.size + 1,0,none⟩ (Value.int IntKind.i64 0)).heap[w4.heap.size]? = some (.deferred (some [])):=by
      rw [Below.heap_setCell _ _ _ _ (by show w4.heap.size ≠ w.heap.size + 1;omega),Below.heap_setCell _ _ _ _ (by show w4.heap.size ≠ w.heap.size;omega)]
      exact hK
     refine ⟨by simp,.inl ⟨_,_,rfl,run_takeDeferred hK2,?_⟩⟩;have hc5 : (((W.setCell ⟨w.heap.size,0,none⟩ (Value.int IntKind.i64 0)).setCell ⟨w.heap.size + 1,0,none⟩ (Value.int IntKind.i64 0)).putObj w4.heap.size (.deferred none)).cell? ⟨w.heap.size,0,none⟩ = some (.int .i64 0):=gcell (grownBy_putObj' _ _ _) (setc_other (setc_eq i0) (by omega)) (fun e => by injection e with e;omega);have hc6 : (((W.setCell ⟨w.heap.size,0,none⟩ (Value.int IntKind.i64 0)).setCell ⟨w.heap.size + 1,0,none⟩ (Value.int IntKind.i64 0)).putObj w4.heap.size (.deferred none)).cell? ⟨w.heap.size + 1,0,none⟩ = some (.int .i64 0):=gcell (grownBy_putObj' _ _ _) (setc_eq (setc_other i1 (by omega))) (fun e => by injection e with e;omega);refine ⟨.tuple #[.int .i64 0,.int .i64 0],?_,by rw [hf],?_⟩
     ·simp [results,Tryz.f71,go_sem,hc5,hc6]
     ·exact ((((HB4.out.trans (u.below (by omega) (fun _ h => by omega))).setCell (by show w.heap.size ≤ w.heap.size;omega) _).setCell (by show w.heap.size ≤ w.heap.size + 1;omega) _).grown (grownBy_putObj' _ _ _) (by simp [World.setCell];have:=u.size;omega) (fun k e => by cases e;omega))
    case stop =>
     rintro cd i W hi ⟨rfl,⟨hc0,hc1⟩,u⟩ hK;have zl:=HZ4.out
     gi_wp2
     refine ⟨by simp,.inl ⟨_,_,rfl,run_takeDeferred hK,?_⟩⟩;have hc5 : (W.putObj w4.heap.size (.deferred none)).cell? ⟨w.heap.size,0,none⟩ = some (.int .i64 X.1):=gcell (grownBy_putObj' _ _ _) hc0 (fun e => by injection e with e;omega);have hc6 : (W.putObj w4.heap.size (.deferred none)).cell? ⟨w.heap.size + 1,0,none⟩ = some (.int .i64 X.2):=gcell (grownBy_putObj' _ _ _) hc1 (fun e => by injection e with e;omega);refine ⟨_,?_,rfl,?_⟩
     ·simp [results,Tryz.f71,go_sem,hc5,hc6]
     ·exact ((HB4.out.trans (u.below (by omega) (fun _ h => h))).grown (grownBy_putObj' _ _ _) (by have:=u.size;omega) (fun k e => by cases e;omega))
end Go.Proofs.YtpcgnjpodnebpaaGreatDoor
namespace Go.Proofs.YtpcgnjpodnebpaaGreatDoor
open Go.RowKit Go.Maps Go.Shelf
open Classical
theorem size_zero {a : ByteArray} (h : a.size = 0) : a = ByteArray.empty:=by
 obtain ⟨⟨x⟩⟩:=a
 cases x with
 | nil => rfl
 | cons y r => simp [ByteArray.size] at h
theorem refcheck (k s : Int) (v : ByteArray) (hf : (⟨k,s,v⟩ : Opn).fits) (w : World) : Calls Tryz.prog 141 #[.agg #[.int .i64 k,.int .i64 s,.string v]] w fun e w' => e = .returned (.int .i64 (ck k s v))∧Below w.heap.size w w':=by
 have hv:=hf.vl
 dsimp only at hv
 have hsz : (v.size : Int) ≤ 9223372036854775807:=by unfold maxLen at hv;omega
 clear hf hv
 by_cases k1 : k = 1
 ·subst k1
  by_cases hs : s < 0 ∨ 1024 ≤ s
  ·have e1 : ck 1 s v = 41:=by simp [ck,hs]
   rw [e1];clear e1
   go_enter Tryz.func141,Tryz.ntmps141
   go_wp2
   all_goals
    go_ret
    exact ⟨by first | rfl | (exfalso;omega) | (exfalso;simp_all),(Below.refl _ w).alloc LR _⟩
  ·have e1 : ck 1 s v = if 64 < v.size then 42 else 0:=by simp [ck,hs]
   rw [e1];clear e1
   by_cases hv : 64 < v.size
   ·rw [if_pos hv]
    have hv' : ((64 : Int) < v.size):=by omega
    go_enter Tryz.func141,Tryz.ntmps141
    go_wp2
    all_goals
     go_ret
     exact ⟨by first | rfl | (exfalso;omega) | (exfalso;simp_all),(Below.refl _ w).alloc LR _⟩
   ·rw [if_neg hv]
    have hv' : ¬ ((64 : Int) < v.size):=by omega
    go_enter Tryz.func141,Tryz.ntmps141
    go_wp2
    all_goals
     go_ret
     exact ⟨by first | rfl | (exfalso;omega) | (exfalso;simp_all),(Below.refl _ w).alloc LR _⟩
 by_cases k2 : k = 2
 ·subst k2
  by_cases hs : s ≠ 0
  ·have e1 : ck 2 s v = 41:=by simp [ck,hs]
   rw [e1];clear e1
   have hb : (s != 0) = true:=by simp [hs]
   go_enter Tryz.func141,Tryz.ntmps141
   go_wp2
   all_goals
    go_ret
    exact ⟨by first | rfl | (exfalso;omega) | (exfalso;simp_all),(Below.refl _ w).alloc LR _⟩
  ·have e1 : ck 2 s v = if 64 < v.size then 42 else 0:=by simp [ck,hs]
   rw [e1];clear e1
   have hs : s = 0:=by omega
   subst hs
   by_cases hv : 64 < v.size
   ·rw [if_pos hv]
    have hv' : ((64 : Int) < v.size):=by omega
    go_enter Tryz.func141,Tryz.ntmps141
    go_wp2
    all_goals
     go_ret
     exact ⟨by first | rfl | (exfalso;omega) | (exfalso;simp_all),(Below.refl _ w).alloc LR _⟩
   ·rw [if_neg hv]
    have hv' : ¬ ((64 : Int) < v.size):=by omega
    go_enter Tryz.func141,Tryz.ntmps141
    go_wp2
    all_goals
     go_ret
     exact ⟨by first | rfl | (exfalso;omega) | (exfalso;simp_all),(Below.refl _ w).alloc LR _⟩
 by_cases k3 : k = 3
 ·subst k3
  by_cases hs : s < 0 ∨ 1024 ≤ s
  ·have e1 : ck 3 s v = 41:=by simp [ck,hs]
   rw [e1];clear e1
   go_enter Tryz.func141,Tryz.ntmps141
   go_wp2
   all_goals
    go_ret
    exact ⟨by first | rfl | (exfalso;omega) | (exfalso;simp_all),(Below.refl _ w).alloc LR _⟩
  ·have e1 : ck 3 s v = if 0 < v.size then 42 else 0:=by simp [ck,hs]
   rw [e1];clear e1
   by_cases hv : 0 < v.size
   ·rw [if_pos hv]
    have hv' : ¬ (v.toList = []):=fun e => by
     rw [ByteArray.toList_eq] at e
     have : v.size = 0:=by simp [ByteArray.size,← Array.length_toList,e]
     omega
    go_enter Tryz.func141,Tryz.ntmps141
    go_wp2
    all_goals
     go_ret
     exact ⟨by first | rfl | (exfalso;omega) | (exfalso;simp_all),(Below.refl _ w).alloc LR _⟩
   ·rw [if_neg hv]
    have hv' : v = ByteArray.empty:=size_zero (by omega);subst hv'
    go_enter Tryz.func141,Tryz.ntmps141
    go_wp2
    all_goals
     go_ret
     exact ⟨by first | rfl | (exfalso;omega) | (exfalso;simp_all),(Below.refl _ w).alloc LR _⟩
 by_cases k4 : k = 4
 ·subst k4
  by_cases hs : s ≠ 0
  ·have e1 : ck 4 s v = 41:=by simp [ck,hs]
   rw [e1];clear e1
   have hb : (s != 0) = true:=by simp [hs]
   go_enter Tryz.func141,Tryz.ntmps141
   go_wp2
   all_goals
    go_ret
    exact ⟨by first | rfl | (exfalso;omega) | (exfalso;simp_all),(Below.refl _ w).alloc LR _⟩
  ·have e1 : ck 4 s v = if 0 < v.size then 42 else 0:=by simp [ck,hs]
   rw [e1];clear e1
   have hs : s = 0:=by omega
   subst hs
   by_cases hv : 0 < v.size
   ·rw [if_pos hv]
    have hv' : ¬ (v.toList = []):=fun e => by
     rw [ByteArray.toList_eq] at e
     have : v.size = 0:=by simp [ByteArray.size,← Array.length_toList,e]
     omega
    go_enter Tryz.func141,Tryz.ntmps141
    go_wp2
    all_goals
     go_ret
     exact ⟨by first | rfl | (exfalso;omega) | (exfalso;simp_all),(Below.refl _ w).alloc LR _⟩
   ·rw [if_neg hv]
    have hv' : v = ByteArray.empty:=size_zero (by omega);subst hv'
    go_enter Tryz.func141,Tryz.ntmps141
    go_wp2
    all_goals
     go_ret
     exact ⟨by first | rfl | (exfalso;omega) | (exfalso;simp_all),(Below.refl _ w).alloc LR _⟩
 have e1 : ck k s v = 40:=by simp [ck,k1,k2,k3,k4]
 rw [e1]
 have b1 : (k == 1) = false:=by simp [k1]
 have b2 : (k == 2) = false:=by simp [k2]
 have b3 : (k == 3) = false:=by simp [k3]
 have b4 : (k == 4) = false:=by simp [k4]
 go_enter Tryz.func141,Tryz.ntmps141
 go_wp2
 all_goals
  go_ret
  exact ⟨rfl,(Below.refl _ w).alloc LR _⟩
theorem tw_take_step {L : List En} {e p : En} {j : Nat} (h : L[j]? = some p) : tw (L.take (j + 1)) e = (tw (L.take j) e || (decide (p.c = e.c) && decide (e.n ≤ p.n))):=by
 rw [List.take_add_one,h]
 exact tw_snoc _ _ _
theorem tw_mono {L : List En} {e : En} {j i : Nat} (hji : j ≤ i) (h : tw (L.take j) e = true) : tw (L.take i) e = true:=by
 unfold tw at h ⊢
 rw [List.any_eq_true] at h ⊢;obtain ⟨x,hx,h2⟩:=h
 exact ⟨x,(List.take_subset_take_left L hji) hx,h2⟩
end Go.Proofs.YtpcgnjpodnebpaaGreatDoor
namespace Go.Proofs.YtpcgnjpodnebpaaGreatDoor
open Go.RowKit Go.Maps
open Classical
structure Cg where
 F : Int
 R : Int
 P : Int
 u : Bool
def Cg.val (c : Cg) : Value:=.agg #[.int .i64 c.F,.int .i64 c.R,.int .i64 c.P,.bool c.u]
def Cg.ok (c : Cg) : Bool:=decide (1 ≤ c.F∧c.F ≤ 3∧1 ≤ c.R∧c.R ≤ 256)
theorem configMayBe_any8 (c : Cg) (w : World) : Calls Tryz.prog 145 #[c.val] w fun e w' => e = .returned (.bool c.ok)∧Below w.heap.size w w':=by
 have bw : Hid (Below w.heap.size w (w.alloc (.cells #[.int .i64 c.F,.int .i64 c.R,.int .i64 c.P,.bool c.u] 23))):=(Below.refl _ w).alloc LR _
 show Calls Tryz.prog 145 #[.agg #[.int .i64 c.F,.int .i64 c.R,.int .i64 c.P,.bool c.u]] w _
 by_cases h1 : 1 ≤ c.F
 ·by_cases h2 : c.F ≤ 3
  ·by_cases h3 : 1 ≤ c.R
   ·by_cases h4 : c.R ≤ 256
    ·have hk : c.ok = true:=decide_eq_true ⟨h1,h2,h3,h4⟩
     go_enter Tryz.func145,Tryz.ntmps145
     go_wp2
     go_ret
     exact ⟨by first | rfl | (rw [hk];rfl),bw.out⟩
    ·have hk : c.ok = false:=decide_eq_false (fun h => h4 h.2.2.2)
     go_enter Tryz.func145,Tryz.ntmps145
     go_wp2
     go_ret
     exact ⟨by first | rfl | (rw [hk];rfl),bw.out⟩
   ·have hk : c.ok = false:=decide_eq_false (fun h => h3 h.2.2.1)
    go_enter Tryz.func145,Tryz.ntmps145
    go_wp2
    go_ret
    exact ⟨by first | rfl | (rw [hk];rfl),bw.out⟩
  ·have hk : c.ok = false:=decide_eq_false (fun h => h2 h.2.1)
   go_enter Tryz.func145,Tryz.ntmps145
   go_wp2
   go_ret
   exact ⟨by first | rfl | (rw [hk];rfl),bw.out⟩
 ·have hk : c.ok = false:=decide_eq_false (fun h => h1 h.1)
  go_enter Tryz.func145,Tryz.ntmps145
  go_wp2
  go_ret
  exact ⟨by first | rfl | (rw [hk];rfl),bw.out⟩
def vmb (v : Int) : Bool:=decide (0 ≤ v∧v ≤ 4294967296)
def lmb (D : List En) (c r : Int) : Bool:=decide ((chk D r).1 = 0∧0 ≤ c∧c ≤ D.length)
theorem viewMayBe_any8 (v : Int) (w : World) : Calls Tryz.prog 179 #[.int .i64 v] w fun e w' => e = .returned (.bool (vmb v))∧w' = w:=by
 by_cases h1 : 0 ≤ v
 ·by_cases h2 : v ≤ 4294967296
  ·have hk : vmb v = true:=decide_eq_true ⟨h1,h2⟩
   go_enter Tryz.func179,Tryz.ntmps179
   go_wp2
   go_ret
   exact ⟨by first | rfl | (rw [hk];rfl),rfl⟩
  ·have hk : vmb v = false:=decide_eq_false (fun h => h2 h.2)
   go_enter Tryz.func179,Tryz.ntmps179
   go_wp2
   go_ret
   exact ⟨by first | rfl | (rw [hk];rfl),rfl⟩
 ·have hk : vmb v = false:=decide_eq_false (fun h => h1 h.1)
  go_enter Tryz.func179,Tryz.ntmps179
  go_wp2
  go_ret
  exact ⟨by first | rfl | (rw [hk];rfl),rfl⟩
theorem logMayBe_any8 (L : List En) (a : Option Addr) (n c : Nat) (cm room : Int) (w : World) (h : SlY yE w a n c L) (hf : ∀ e ∈ L,e.fits) :
  Calls Tryz.prog 180 #[.slice a n c,.int .i64 cm,.int .i64 room] w fun e w' => e = .returned (.bool (lmb L cm room))∧Below w.heap.size w w':=by
 have hln:=h.len;have H:=hide (checkO_any L a n c room w h hf);clear h hf
 have hl : Hid ((L.length : Int) = (n : Int)):=by show _ = _;rw [hln]
 clear hln
 go_enter Tryz.func180,Tryz.ntmps180
 go_wp2_with fail
 refine H.out.mono ?_;rintro e w1 ⟨rfl,b1⟩
 by_cases hx : (chk L room).1 = 0
 ·by_cases h1 : 0 ≤ cm
  ·by_cases h2 : cm ≤ (n : Int)
   ·have V : Hid (lmb L cm room = true):=decide_eq_true ⟨hx,h1,by rw [hl.out];exact h2⟩
    have d2 : decide (cm ≤ (n : Int)) = true:=decide_eq_true h2
    go_wp2
    go_ret
    exact ⟨by rw [V.out];first | rfl | (rw [d2];rfl),b1⟩
   ·have V : Hid (lmb L cm room = false):=decide_eq_false (fun h => h2 (by rw [← hl.out];exact h.2.2))
    have d2 : decide (cm ≤ (n : Int)) = false:=decide_eq_false h2
    go_wp2
    go_ret
    exact ⟨by rw [V.out];first | rfl | (rw [d2];rfl),b1⟩
  ·have V : Hid (lmb L cm room = false):=decide_eq_false (fun h => h1 h.2.1)
   go_wp2
   go_ret
   exact ⟨by rw [V.out];rfl,b1⟩
 ·have V : Hid (lmb L cm room = false):=decide_eq_false (fun h => hx h.1)
  have hq : ((chk L room).1 == 0) = false:=by simp [hx]
  go_wp2
  go_ret
  exact ⟨by rw [V.out];rfl,b1⟩
theorem prim_eq (v n : Int) (hn : 0 < n) : Int.tmod (Int.tmod v n + n) n = v % n:=by
 have h1:=Int.lt_tmod_of_pos v hn;rw [Int.tmod_eq_emod_of_nonneg (by omega),Int.add_emod_right,Int.tmod_def,Int.sub_mul_emod_self_left]
theorem primary_any (v n : Int) (w : World) (hn : 0 < n) (hn2 : n ≤ 9) : Calls Tryz.prog 184 #[.int .i64 v,.int .i64 n] w fun e w' => e = .returned (.int .i64 (v % n))∧w' = w:=by
 have h1:=Int.lt_tmod_of_pos v hn;have h2:=Int.tmod_lt_of_pos v hn;have h3:=prim_eq v n hn
 have h0 : n ≠ 0:=by omega
 have hb : (n == 0) = false:=by simp [h0]
 have hw1 : IntKind.i64.wrap (Int.tmod v n) = Int.tmod v n:=by rw [IntKind.wrap_i64];omega
 have hw2 : IntKind.i64.wrap (Int.tmod v n + n) = Int.tmod v n + n:=by rw [IntKind.wrap_i64];omega
 have h5:=Int.emod_nonneg v h0;have h6:=Int.emod_lt_of_pos v hn
 have hw3 : IntKind.i64.wrap (v % n) = v % n:=by rw [IntKind.wrap_i64];omega
 go_enter Tryz.func184,Tryz.ntmps184
 go_wp2
 go_ret
 exact ⟨rfl,rfl⟩
end Go.Proofs.YtpcgnjpodnebpaaGreatDoor
