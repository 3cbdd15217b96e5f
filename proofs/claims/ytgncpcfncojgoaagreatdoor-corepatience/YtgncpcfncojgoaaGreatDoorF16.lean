import Derived.Test.YtgncpcfncojgoaaGreatDoorF15
set_option maxRecDepth 100000
set_option linter.unusedVariables false
set_option linter.unusedSimpArgs false
namespace Go.Proofs.YtgncpcfncojgoaaGreatDoor
open Go.RowKit Go.Maps
open Classical
theorem rowIx0 (v0 v1 v2 v3 v4 v5 v6 v7 v8 v9 : Int) (w : World) : Sem.run Tryz.prog (Instr.index 167 (.agg #[.int .u8 v0,.int .u8 v1,.int .u8 v2,.int .u8 v3,.int .u8 v4,.int .u8 v5,.int .u8 v6,.int .u8 v7,.int .u8 v8,.int .u8 v9]) (.int .i64 0)) w = .ok (.int .u8 v0) w:=by kernel_rfl
theorem rowIx1 (v0 v1 v2 v3 v4 v5 v6 v7 v8 v9 : Int) (w : World) : Sem.run Tryz.prog (Instr.index 167 (.agg #[.int .u8 v0,.int .u8 v1,.int .u8 v2,.int .u8 v3,.int .u8 v4,.int .u8 v5,.int .u8 v6,.int .u8 v7,.int .u8 v8,.int .u8 v9]) (.int .i64 1)) w = .ok (.int .u8 v1) w:=by kernel_rfl
theorem rowIx2 (v0 v1 v2 v3 v4 v5 v6 v7 v8 v9 : Int) (w : World) : Sem.run Tryz.prog (Instr.index 167 (.agg #[.int .u8 v0,.int .u8 v1,.int .u8 v2,.int .u8 v3,.int .u8 v4,.int .u8 v5,.int .u8 v6,.int .u8 v7,.int .u8 v8,.int .u8 v9]) (.int .i64 2)) w = .ok (.int .u8 v2) w:=by kernel_rfl
theorem rowIx3 (v0 v1 v2 v3 v4 v5 v6 v7 v8 v9 : Int) (w : World) : Sem.run Tryz.prog (Instr.index 167 (.agg #[.int .u8 v0,.int .u8 v1,.int .u8 v2,.int .u8 v3,.int .u8 v4,.int .u8 v5,.int .u8 v6,.int .u8 v7,.int .u8 v8,.int .u8 v9]) (.int .i64 3)) w = .ok (.int .u8 v3) w:=by kernel_rfl
theorem rowIx4 (v0 v1 v2 v3 v4 v5 v6 v7 v8 v9 : Int) (w : World) : Sem.run Tryz.prog (Instr.index 167 (.agg #[.int .u8 v0,.int .u8 v1,.int .u8 v2,.int .u8 v3,.int .u8 v4,.int .u8 v5,.int .u8 v6,.int .u8 v7,.int .u8 v8,.int .u8 v9]) (.int .i64 4)) w = .ok (.int .u8 v4) w:=by kernel_rfl
theorem rowIx5 (v0 v1 v2 v3 v4 v5 v6 v7 v8 v9 : Int) (w : World) : Sem.run Tryz.prog (Instr.index 167 (.agg #[.int .u8 v0,.int .u8 v1,.int .u8 v2,.int .u8 v3,.int .u8 v4,.int .u8 v5,.int .u8 v6,.int .u8 v7,.int .u8 v8,.int .u8 v9]) (.int .i64 5)) w = .ok (.int .u8 v5) w:=by kernel_rfl
theorem rowIx6 (v0 v1 v2 v3 v4 v5 v6 v7 v8 v9 : Int) (w : World) : Sem.run Tryz.prog (Instr.index 167 (.agg #[.int .u8 v0,.int .u8 v1,.int .u8 v2,.int .u8 v3,.int .u8 v4,.int .u8 v5,.int .u8 v6,.int .u8 v7,.int .u8 v8,.int .u8 v9]) (.int .i64 6)) w = .ok (.int .u8 v6) w:=by kernel_rfl
theorem rowIx7 (v0 v1 v2 v3 v4 v5 v6 v7 v8 v9 : Int) (w : World) : Sem.run Tryz.prog (Instr.index 167 (.agg #[.int .u8 v0,.int .u8 v1,.int .u8 v2,.int .u8 v3,.int .u8 v4,.int .u8 v5,.int .u8 v6,.int .u8 v7,.int .u8 v8,.int .u8 v9]) (.int .i64 7)) w = .ok (.int .u8 v7) w:=by kernel_rfl
theorem rowIx8 (v0 v1 v2 v3 v4 v5 v6 v7 v8 v9 : Int) (w : World) : Sem.run Tryz.prog (Instr.index 167 (.agg #[.int .u8 v0,.int .u8 v1,.int .u8 v2,.int .u8 v3,.int .u8 v4,.int .u8 v5,.int .u8 v6,.int .u8 v7,.int .u8 v8,.int .u8 v9]) (.int .i64 8)) w = .ok (.int .u8 v8) w:=by kernel_rfl
theorem rowIx9 (v0 v1 v2 v3 v4 v5 v6 v7 v8 v9 : Int) (w : World) : Sem.run Tryz.prog (Instr.index 167 (.agg #[.int .u8 v0,.int .u8 v1,.int .u8 v2,.int .u8 v3,.int .u8 v4,.int .u8 v5,.int .u8 v6,.int .u8 v7,.int .u8 v8,.int .u8 v9]) (.int .i64 9)) w = .ok (.int .u8 v9) w:=by kernel_rfl
theorem rowIx (k j : Nat) (hj : j < 10) (w : World) : Sem.run Tryz.prog (Instr.index 167 (.agg #[.int .u8 (tabA k 0 : Int),.int .u8 (tabA k 1 : Int),.int .u8 (tabA k 2 : Int),.int .u8 (tabA k 3 : Int),.int .u8 (tabA k 4 : Int),.int .u8 (tabA k 5 : Int),.int .u8 (tabA k 6 : Int),.int .u8 (tabA k 7 : Int),.int .u8 (tabA k 8 : Int),.int .u8 (tabA k 9 : Int)]) (.int .i64 (j : Int))) w = .ok (.int .u8 (tabA k j : Int)) w:=by
 match j,hj with
 | 0,_ => exact rowIx0 _ _ _ _ _ _ _ _ _ _ w
 | 1,_ => exact rowIx1 _ _ _ _ _ _ _ _ _ _ w
 | 2,_ => exact rowIx2 _ _ _ _ _ _ _ _ _ _ w
 | 3,_ => exact rowIx3 _ _ _ _ _ _ _ _ _ _ w
 | 4,_ => exact rowIx4 _ _ _ _ _ _ _ _ _ _ w
 | 5,_ => exact rowIx5 _ _ _ _ _ _ _ _ _ _ w
 | 6,_ => exact rowIx6 _ _ _ _ _ _ _ _ _ _ w
 | 7,_ => exact rowIx7 _ _ _ _ _ _ _ _ _ _ w
 | 8,_ => exact rowIx8 _ _ _ _ _ _ _ _ _ _ w
 | 9,_ => exact rowIx9 _ _ _ _ _ _ _ _ _ _ w
set_option maxHeartbeats 4000000 in
theorem checkM_any (c : Cf) (m : Mg) (a1 a2 : Option Addr) (cl cv : Nat) (L : List En) (D : List (Int × Int)) (w : World) (hT : Tab w) (h1 : SlY yE w a1 L.length cl L) (hfit : ∀ e ∈ L,e.fits) (h2 : SlY yD w a2 D.length cv D) (hfe : m.e.fits) :
  Calls Tryz.prog 43 #[c.val,m.val (.slice a1 L.length cl) (.slice a2 D.length cv)] w fun e w' => e = .returned (.int .i64 (ckM c m L D))∧Below w.heap.size w w':=by
 have HT:=hide hT;have H1:=hide h1;have H2:=hide h2;have H0:=hT.lt;clear hT h1 h2;have HC:=hide (fun W => configMayBe_any c W);have HV : Hid (c.val = .agg #[.int .i64 c.f,.int .i64 c.r,.int .i64 c.p,.bool c.u]):=rfl;rw [HV.out] at HC ⊢
 by_cases hc : cfB c = true
 ·obtain ⟨hf1,hf2⟩:=cfB_f hc
  by_cases hk : kdB m.k = true
  ·obtain ⟨k,hkk,hk1,hk2⟩ : ∃ k : Nat,m.k = (k : Int)∧1 ≤ k∧k < 15:=by
    unfold kdB inR at hk
    simp at hk
    exact ⟨m.k.toNat,by omega,by omega,by omega⟩
   have V : Hid (ckM c m L D = if (List.range 10).all (fun j => keepB c.f c.r m L D j (tabA k j)) then 0 else 71):=by
    show _ = _
    unfold ckM
    rw [hc,hk,hkk]
    simp
   have HK:=hide (fun W => isKind_any m.k W);rw [hk,hkk] at HK;rw [hc] at HC;clear hk hc
   go_enter Tryz.func43,Tryz.ntmps43
   go_wp2_with (refine boxMk rfl (.tmp 1) rfl m _ _ rfl ?_;intro q1 w1 hq1 M1 b1 z1;have c0 : w1.cell? ⟨w.heap.size,0,none⟩ = some (.int .i64 c.f):=(b1.cell (p:=⟨w.heap.size,0,none⟩) (by simp)).trans (by simp);have c1 : w1.cell? ⟨w.heap.size,1,none⟩ = some (.int .i64 c.r):=(b1.cell (p:=⟨w.heap.size,1,none⟩) (by simp)).trans (by simp);have c2 : w1.cell? ⟨w.heap.size,2,none⟩ = some (.int .i64 c.p):=(b1.cell (p:=⟨w.heap.size,2,none⟩) (by simp)).trans (by simp);have c3 : w1.cell? ⟨w.heap.size,3,none⟩ = some (.bool c.u):=(b1.cell (p:=⟨w.heap.size,3,none⟩) (by simp)).trans (by simp))
   have hq2 : q1 = w.heap.size + 1:=by first | exact hq1 | simpa using hq1
   subst hq2;have hB1 : Below w.heap.size w w1:=((Below.refl _ _).alloc (Nat.le_refl _) _).trans (b1.mono (by simp));refine (HC.out w1).mono ?_;rintro e w2 ⟨rfl,b2⟩;have hs2 : w1.heap.size ≤ w2.heap.size:=b2.size;have g0:=(b2.cell (p:=⟨w.heap.size,0,none⟩) (by show w.heap.size < w1.heap.size;omega)).trans c0;have g1:=(b2.cell (p:=⟨w.heap.size,1,none⟩) (by show w.heap.size < w1.heap.size;omega)).trans c1;have g2:=(b2.cell (p:=⟨w.heap.size,2,none⟩) (by show w.heap.size < w1.heap.size;omega)).trans c2;have g3:=(b2.cell (p:=⟨w.heap.size,3,none⟩) (by show w.heap.size < w1.heap.size;omega)).trans c3;have M2:=M1.bel b2;have B2:=hide (hB1.trans (b2.mono (by omega)))
   have x0 : w2.cell? ⟨w.heap.size + 1,0,none⟩ = some (.int .i64 (k : Int)):=by rw [← hkk];exact M2.cell 0 _ rfl
   have HM:=hide M2;have HKK:=hide hkk;clear hkk;have hz1:=z1;clear c0 c1 c2 c3 M1 b1 M2 hB1 b2 hq1 z1;have HZ:=hide hz1;have HS2:=hide hs2;clear hz1 hs2
   dsimp only
   go_wp2_with fail
   refine (HK.out _).mono ?_;rintro e w3 ⟨rfl,rfl⟩;have T2:=HT.out.later B2.out H0;have y0 : w3.cell? ⟨0,k * 10,none⟩ = some (.int .u8 (tabA k 0 : Int)):=T2.cell k 0 hk2 (by omega);have y1 : w3.cell? ⟨0,k * 10 + 1,none⟩ = some (.int .u8 (tabA k 1 : Int)):=T2.cell k 1 hk2 (by omega);have y2 : w3.cell? ⟨0,k * 10 + 2,none⟩ = some (.int .u8 (tabA k 2 : Int)):=T2.cell k 2 hk2 (by omega);have y3 : w3.cell? ⟨0,k * 10 + 3,none⟩ = some (.int .u8 (tabA k 3 : Int)):=T2.cell k 3 hk2 (by omega);have y4 : w3.cell? ⟨0,k * 10 + 4,none⟩ = some (.int .u8 (tabA k 4 : Int)):=T2.cell k 4 hk2 (by omega);have y5 : w3.cell? ⟨0,k * 10 + 5,none⟩ = some (.int .u8 (tabA k 5 : Int)):=T2.cell k 5 hk2 (by omega);have y6 : w3.cell? ⟨0,k * 10 + 6,none⟩ = some (.int .u8 (tabA k 6 : Int)):=T2.cell k 6 hk2 (by omega);have y7 : w3.cell? ⟨0,k * 10 + 7,none⟩ = some (.int .u8 (tabA k 7 : Int)):=T2.cell k 7 hk2 (by omega);have y8 : w3.cell? ⟨0,k * 10 + 8,none⟩ = some (.int .u8 (tabA k 8 : Int)):=T2.cell k 8 hk2 (by omega);have y9 : w3.cell? ⟨0,k * 10 + 9,none⟩ = some (.int .u8 (tabA k 9 : Int)):=T2.cell k 9 hk2 (by omega);have HT2:=hide T2;clear T2
   dsimp only
   go_wp2_with fail
   have HMk:=hide hk2;clear hk1 x0 y0 y1 y2 y3 y4 y5 y6 y7 y8 y9
   go_loopw [20] (fun i wr => ∃ j : Nat,i = .int .i64 (j : Int)∧j ≤ 10∧(∀ t,t < j → keepB c.f c.r m L D t (tabA k t) = true)∧Below w.heap.size w wr∧MBox wr (w.heap.size + 1) m (.slice a1 L.length cl) (.slice a2 D.length cv)∧wr.cell? ⟨w.heap.size,0,none⟩ = some (.int .i64 c.f)∧wr.cell? ⟨w.heap.size,1,none⟩ = some (.int .i64 c.r)∧wr.cell? ⟨w.heap.size,2,none⟩ = some (.int .i64 c.p)∧wr.cell? ⟨w.heap.size,3,none⟩ = some (.bool c.u)) (fun i _ => 10 - (intOf i).toNat)
   case atStart => exact ⟨0,rfl,by omega,fun t ht => absurd ht (by omega),B2.out,HM.out,g0,g1,g2,g3⟩
   case round =>
    clear g0 g1 g2 g3 HM B2;obtain ⟨j,rfl,hj,hall,br,mr,r0,r1,r2,r3⟩:=hrel;have HA:=hide hall;have HBr:=hide br;have HMr:=hide mr;clear hall br mr
    by_cases hlt : j < 10
    ·have KA:=hide (keeps_all c.f c.r c.p c.u m a1 a2 cl cv L D j (tabA k j) hlt (tabA_lt k HMk.out j hlt) _ hf1 hf2 (H1.out.later HBr.out) hfit (H2.out.later HBr.out) hfe)
     cases hkp : keepB c.f c.r m L D j (tabA k j)
     ·rw [hkp] at KA
      have N:=hide hkp;clear hkp
      go_wp2_with fail
      rw [rowIx k j hlt]
      go_wp2_with (refine loadM rfl (.tmp 3) rfl (w.heap.size + 1) m _ _ rfl HMr.out ?_)
      refine KA.out.mono ?_;rintro e w5 ⟨rfl,b5⟩;have B5:=hide (HBr.out.trans (b5.mono HBr.out.size));clear b5
      dsimp only
      go_wp2
      go_ret
      refine ⟨?_,B5.out⟩
      rw [V.out,if_neg (fun hh => by
       have:=(List.all_eq_true.1 hh) j (List.mem_range.2 hlt);rw [N.out] at this
       cases this)]
      rfl
     ·rw [hkp] at KA
      have N:=hide hkp;clear hkp
      go_wp2_with fail
      rw [rowIx k j hlt]
      go_wp2_with (refine loadM rfl (.tmp 3) rfl (w.heap.size + 1) m _ _ rfl HMr.out ?_)
      refine KA.out.mono ?_;rintro e w5 ⟨rfl,b5⟩;have l1:=HMr.out.lt;have B5:=hide (HBr.out.trans (b5.mono HBr.out.size));have M5:=hide (HMr.out.bel b5);have s0:=hide ((b5.cell (p:=⟨w.heap.size,0,none⟩) (Nat.lt_of_succ_lt l1)).trans r0);have s1:=hide ((b5.cell (p:=⟨w.heap.size,1,none⟩) (Nat.lt_of_succ_lt l1)).trans r1);have s2:=hide ((b5.cell (p:=⟨w.heap.size,2,none⟩) (Nat.lt_of_succ_lt l1)).trans r2);have s3:=hide ((b5.cell (p:=⟨w.heap.size,3,none⟩) (Nat.lt_of_succ_lt l1)).trans r3);clear b5 l1
      dsimp only
      go_wp2
      go_round
      case rel => exact ⟨j + 1,by go_num,by omega,fun t ht => by
       rcases Nat.lt_succ_iff_lt_or_eq.1 ht with h | h
       ·exact HA.out t h
       ·subst h;exact N.out,B5.out,M5.out,s0.out,s1.out,s2.out,s3.out⟩
      case measure => simp [intOf];omega
    ·have hj10 : j = 10:=by omega
     subst hj10
     go_wp2
     go_ret
     refine ⟨?_,HBr.out⟩;rw [V.out,if_pos (List.all_eq_true.2 (fun t ht => HA.out t (List.mem_range.1 ht)))]
     rfl
  ·have hk0 : kdB m.k = false:=by simpa using hk
   have V : Hid (ckM c m L D = 70):=by
    show _ = _
    unfold ckM
    rw [hc,hk0]
    simp
   have HK:=hide (fun W => isKind_any m.k W);rw [hk0] at HK;rw [hc] at HC;clear hk hc hk0
   go_enter Tryz.func43,Tryz.ntmps43
   go_wp2_with (refine boxMk rfl (.tmp 1) rfl m _ _ rfl ?_;intro q1 w1 hq1 M1 b1 z1;have c0 : w1.cell? ⟨w.heap.size,0,none⟩ = some (.int .i64 c.f):=(b1.cell (p:=⟨w.heap.size,0,none⟩) (by simp)).trans (by simp);have c1 : w1.cell? ⟨w.heap.size,1,none⟩ = some (.int .i64 c.r):=(b1.cell (p:=⟨w.heap.size,1,none⟩) (by simp)).trans (by simp);have c2 : w1.cell? ⟨w.heap.size,2,none⟩ = some (.int .i64 c.p):=(b1.cell (p:=⟨w.heap.size,2,none⟩) (by simp)).trans (by simp);have c3 : w1.cell? ⟨w.heap.size,3,none⟩ = some (.bool c.u):=(b1.cell (p:=⟨w.heap.size,3,none⟩) (by simp)).trans (by simp))
   have hq2 : q1 = w.heap.size + 1:=by first | exact hq1 | simpa using hq1
   subst hq2;have hB1 : Below w.heap.size w w1:=((Below.refl _ _).alloc (Nat.le_refl _) _).trans (b1.mono (by simp));refine (HC.out w1).mono ?_;rintro e w2 ⟨rfl,b2⟩;have hs2 : w1.heap.size ≤ w2.heap.size:=b2.size;have g0:=(b2.cell (p:=⟨w.heap.size,0,none⟩) (by show w.heap.size < w1.heap.size;omega)).trans c0;have g1:=(b2.cell (p:=⟨w.heap.size,1,none⟩) (by show w.heap.size < w1.heap.size;omega)).trans c1;have g2:=(b2.cell (p:=⟨w.heap.size,2,none⟩) (by show w.heap.size < w1.heap.size;omega)).trans c2;have g3:=(b2.cell (p:=⟨w.heap.size,3,none⟩) (by show w.heap.size < w1.heap.size;omega)).trans c3;have M2:=M1.bel b2;have B2:=hide (hB1.trans (b2.mono (by omega)));have x0:=M2.cell 0 _ rfl;have HM:=hide M2;have hz1:=z1;clear c0 c1 c2 c3 M1 b1 M2 hB1 b2 hq1 z1;have HZ:=hide hz1;have HS2:=hide hs2;clear hz1 hs2
   dsimp only
   go_wp2_with fail
   refine (HK.out _).mono ?_;rintro e w3 ⟨rfl,rfl⟩
   dsimp only
   go_wp2
   go_ret
   exact ⟨by rw [V.out];rfl,B2.out⟩
 ·have hc0 : cfB c = false:=by simpa using hc
  have V : Hid (ckM c m L D = 1):=by
   show _ = _
   unfold ckM
   rw [hc0]
   simp
  rw [hc0] at HC;clear hc hc0
  go_enter Tryz.func43,Tryz.ntmps43
  go_wp2_with (refine boxMk rfl (.tmp 1) rfl m _ _ rfl ?_;intro q1 w1 hq1 M1 b1 z1;have c0 : w1.cell? ⟨w.heap.size,0,none⟩ = some (.int .i64 c.f):=(b1.cell (p:=⟨w.heap.size,0,none⟩) (by simp)).trans (by simp);have c1 : w1.cell? ⟨w.heap.size,1,none⟩ = some (.int .i64 c.r):=(b1.cell (p:=⟨w.heap.size,1,none⟩) (by simp)).trans (by simp);have c2 : w1.cell? ⟨w.heap.size,2,none⟩ = some (.int .i64 c.p):=(b1.cell (p:=⟨w.heap.size,2,none⟩) (by simp)).trans (by simp);have c3 : w1.cell? ⟨w.heap.size,3,none⟩ = some (.bool c.u):=(b1.cell (p:=⟨w.heap.size,3,none⟩) (by simp)).trans (by simp))
  have hq2 : q1 = w.heap.size + 1:=by first | exact hq1 | simpa using hq1
  subst hq2;have hB1 : Below w.heap.size w w1:=((Below.refl _ _).alloc (Nat.le_refl _) _).trans (b1.mono (by simp));refine (HC.out w1).mono ?_;rintro e w2 ⟨rfl,b2⟩;have hs2 : w1.heap.size ≤ w2.heap.size:=b2.size;have g0:=(b2.cell (p:=⟨w.heap.size,0,none⟩) (by show w.heap.size < w1.heap.size;omega)).trans c0;have g1:=(b2.cell (p:=⟨w.heap.size,1,none⟩) (by show w.heap.size < w1.heap.size;omega)).trans c1;have g2:=(b2.cell (p:=⟨w.heap.size,2,none⟩) (by show w.heap.size < w1.heap.size;omega)).trans c2;have g3:=(b2.cell (p:=⟨w.heap.size,3,none⟩) (by show w.heap.size < w1.heap.size;omega)).trans c3;have M2:=M1.bel b2;have B2:=hide (hB1.trans (b2.mono (by omega)));have x0:=M2.cell 0 _ rfl;have HM:=hide M2;have hz1:=z1;clear c0 c1 c2 c3 M1 b1 M2 hB1 b2 hq1 z1;have HZ:=hide hz1;have HS2:=hide hs2;clear hz1 hs2
  dsimp only
  go_wp2
  go_ret
  exact ⟨by rw [V.out];rfl,B2.out⟩
end Go.Proofs.YtgncpcfncojgoaaGreatDoor
namespace Go.Proofs.YtgncpcfncojgoaaGreatDoor
open Go.RowKit Go.Maps Go.Shelf
open Classical
def Bl.Cps (B : Nat) (w : World) (L R : List Bl) : Prop:=R.length = L.length∧∀ (i : Nat) (x y : Bl),L[i]? = some x → R[i]? = some y → Bl.Like x y∧OwnY yE B w (.slice y.s.a y.s.D.length y.s.c) y.s.D∧y.s.D.length * 48 ≤ 281474976710656
theorem Bl.Cps.bel {B : Nat} {w w' : World} {L R : List Bl} (h : Bl.Cps B w L R) (hb : Below w.heap.size w w') : Bl.Cps B w' L R:=⟨h.1,fun i x y hx hy => ⟨(h.2 i x y hx hy).1,(h.2 i x y hx hy).2.1.grow hb,(h.2 i x y hx hy).2.2⟩⟩
theorem Bl.Cps.low {B B' : Nat} {w : World} {L R : List Bl} (h : Bl.Cps B w L R) (hB : B' ≤ B) : Bl.Cps B' w L R:=⟨h.1,fun i x y hx hy => ⟨(h.2 i x y hx hy).1,(h.2 i x y hx hy).2.1.low hB,(h.2 i x y hx hy).2.2⟩⟩
theorem Bl.Cps.set8 {B q : Nat} {w w' : World} {L R : List Bl} (h : Bl.Cps B w L R) (u : Upd (fun k => k = q) w w') (hq : q < B) : Bl.Cps B w' L R:=⟨h.1,fun i x y hx hy => ⟨(h.2 i x y hx hy).1,(h.2 i x y hx hy).2.1.upd1 u (fun k hk e => by have:=((h.2 i x y hx hy).2.1.blk k hk).1;omega),(h.2 i x y hx hy).2.2⟩⟩
theorem Bl.Cps.row {B B' : Nat} {w w' : World} {L R : List Bl} {v : Value} {Z : List Bl} (h : Bl.Cps B w L R) (ho : OwnY yBlA B' w v Z) (hg : w.grownBy w' v.ownBlock) : Bl.Cps B w' L R:=⟨h.1,fun i x y hx hy => ⟨(h.2 i x y hx hy).1,(h.2 i x y hx hy).2.1.grownZ ho (by decide) hg,(h.2 i x y hx hy).2.2⟩⟩
theorem Bl.Cps.in8 {B : Nat} {w : World} {L R : List Bl} (h : Bl.Cps B w L R) : ∀ y ∈ R,y.In w:=fun y hy => by
 obtain ⟨i,hi,rfl⟩:=List.mem_iff_getElem.1 hy
 have hl : i < L.length:=by rw [← h.1];exact hi
 obtain ⟨_,o,hb⟩:=h.2 i _ _ (List.getElem?_eq_getElem hl) (List.getElem?_eq_getElem hi)
 exact ⟨o.sl' kE,hb⟩
theorem Bl.Cps.nil (B : Nat) (w : World) : Bl.Cps B w [] []:=⟨rfl,fun i x y hx => by simp at hx⟩
theorem Bl.Cps.snoc {B : Nat} {w : World} {L R : List Bl} {x y : Bl} (h : Bl.Cps B w L R) (hy : Bl.Like x y∧OwnY yE B w (.slice y.s.a y.s.D.length y.s.c) y.s.D∧y.s.D.length * 48 ≤ 281474976710656) : Bl.Cps B w (L ++ [x]) (R ++ [y]):=by
 refine ⟨by simp [h.1],fun i a b ha hb => ?_⟩
 by_cases hi : i < L.length
 ·rw [List.getElem?_append_left hi] at ha
  rw [List.getElem?_append_left (by rw [h.1];exact hi)] at hb
  exact h.2 i a b ha hb
 ·rw [List.getElem?_append_right (by omega)] at ha
  rw [List.getElem?_append_right (by rw [h.1];omega),h.1] at hb
  have h0 : i - L.length = 0:=by
   have:=(List.getElem?_eq_some_iff.1 ha).1
   simp at this
   omega
  rw [h0] at ha hb
  simp at ha hb
  subst ha hb
  exact hy
theorem bsBl9 (x : Bl) (w : World) : (Instr.buildSlice 33 1 #[(0,x.val)]).run Tryz.prog w = .ok (.slice (some ⟨w.heap.size,0,none⟩) 1 1) (w.alloc (.cells (yBlA.cs x).toArray 114)):=by
 unfold Bl.val
 go_simp
 first | done | rfl
theorem ldbBl9 {w : World} {q : Nat} {x : Bl} (h : BX7 w q x.cs) : (Instr.loadAt 114 (.pointer (some ⟨q,0,none⟩))).run Tryz.prog w = .ok x.val w:=ldBl9 (o:=0) (fun k u hu => by rw [Nat.zero_add];exact h.cell k u hu)
def An.Cps (B : Nat) (w : World) (L R : List An) : Prop:=R.length = L.length∧∀ (i : Nat) (x y : An),L[i]? = some x → R[i]? = some y → An.Like x y∧OwnY yE B w (.slice y.s.a y.s.D.length y.s.c) y.s.D∧y.s.D.length * 48 ≤ 281474976710656
theorem An.Cps.bel {B : Nat} {w w' : World} {L R : List An} (h : An.Cps B w L R) (hb : Below w.heap.size w w') : An.Cps B w' L R:=⟨h.1,fun i x y hx hy => ⟨(h.2 i x y hx hy).1,(h.2 i x y hx hy).2.1.grow hb,(h.2 i x y hx hy).2.2⟩⟩
theorem An.Cps.low {B B' : Nat} {w : World} {L R : List An} (h : An.Cps B w L R) (hB : B' ≤ B) : An.Cps B' w L R:=⟨h.1,fun i x y hx hy => ⟨(h.2 i x y hx hy).1,(h.2 i x y hx hy).2.1.low hB,(h.2 i x y hx hy).2.2⟩⟩
theorem An.Cps.set8 {B q : Nat} {w w' : World} {L R : List An} (h : An.Cps B w L R) (u : Upd (fun k => k = q) w w') (hq : q < B) : An.Cps B w' L R:=⟨h.1,fun i x y hx hy => ⟨(h.2 i x y hx hy).1,(h.2 i x y hx hy).2.1.upd1 u (fun k hk e => by have:=((h.2 i x y hx hy).2.1.blk k hk).1;omega),(h.2 i x y hx hy).2.2⟩⟩
theorem An.Cps.row {B B' : Nat} {w w' : World} {L R : List An} {v : Value} {Z : List An} (h : An.Cps B w L R) (ho : OwnY yAnA B' w v Z) (hg : w.grownBy w' v.ownBlock) : An.Cps B w' L R:=⟨h.1,fun i x y hx hy => ⟨(h.2 i x y hx hy).1,(h.2 i x y hx hy).2.1.grownZ ho (by decide) hg,(h.2 i x y hx hy).2.2⟩⟩
theorem An.Cps.in8 {B : Nat} {w : World} {L R : List An} (h : An.Cps B w L R) : ∀ y ∈ R,y.In w:=fun y hy => by
 obtain ⟨i,hi,rfl⟩:=List.mem_iff_getElem.1 hy
 have hl : i < L.length:=by rw [← h.1];exact hi
 obtain ⟨_,o,hb⟩:=h.2 i _ _ (List.getElem?_eq_getElem hl) (List.getElem?_eq_getElem hi)
 exact ⟨o.sl' kE,hb⟩
theorem An.Cps.nil (B : Nat) (w : World) : An.Cps B w [] []:=⟨rfl,fun i x y hx => by simp at hx⟩
theorem An.Cps.snoc {B : Nat} {w : World} {L R : List An} {x y : An} (h : An.Cps B w L R) (hy : An.Like x y∧OwnY yE B w (.slice y.s.a y.s.D.length y.s.c) y.s.D∧y.s.D.length * 48 ≤ 281474976710656) : An.Cps B w (L ++ [x]) (R ++ [y]):=by
 refine ⟨by simp [h.1],fun i a b ha hb => ?_⟩
 by_cases hi : i < L.length
 ·rw [List.getElem?_append_left hi] at ha
  rw [List.getElem?_append_left (by rw [h.1];exact hi)] at hb
  exact h.2 i a b ha hb
 ·rw [List.getElem?_append_right (by omega)] at ha
  rw [List.getElem?_append_right (by rw [h.1];omega),h.1] at hb
  have h0 : i - L.length = 0:=by
   have:=(List.getElem?_eq_some_iff.1 ha).1
   simp at this
   omega
  rw [h0] at ha hb
  simp at ha hb
  subst ha hb
  exact hy
theorem bsAn9 (x : An) (w : World) : (Instr.buildSlice 34 1 #[(0,x.val)]).run Tryz.prog w = .ok (.slice (some ⟨w.heap.size,0,none⟩) 1 1) (w.alloc (.cells (yAnA.cs x).toArray 116)):=by
 unfold An.val
 go_simp
 first | done | rfl
theorem ldbAn9 {w : World} {q : Nat} {x : An} (h : BX7 w q x.cs) : (Instr.loadAt 116 (.pointer (some ⟨q,0,none⟩))).run Tryz.prog w = .ok x.val w:=ldAn9 (o:=0) (fun k u hu => by rw [Nat.zero_add];exact h.cell k u hu)
structure Sta.Cp (t : Sta) (B : Nat) (s : Sta) (w : World) : Prop where
 self : t.self = s.self
 st : t.st = s.st
 view : t.view = s.view
 last : t.last = s.last
 commit : t.commit = s.commit
 idle : t.idle = s.idle
 l : t.L = s.L
 v : t.V = s.V
 a : t.A = s.A
 m : t.M = s.M
 b : Bl.Cps B w s.B t.B
 n : An.Cps B w s.N t.N
 inn : t.In w
theorem OwnY.set9 {α : Type} {Y : Lay α} {B q : Nat} {w w' : World} {v : Value} {l : List α} (h : OwnY Y B w v l) (u : Upd (fun k => k = q) w w') (hq : q < B) : OwnY Y B w' v l:=h.upd1 u (fun k hk e => by have:=(h.blk k hk).1;omega)
structure Sta.Ow (t : Sta) (B : Nat) (w : World) : Prop where
 l : OwnY yE B w (.slice t.la t.L.length t.lc) t.L
 v : OwnY yD B w (.slice t.va t.V.length t.vc) t.V
 a : OwnY yAkA B w (.slice t.ka t.A.length t.kc) t.A
 m : OwnY yMkA B w (.slice t.ma t.M.length t.mc) t.M
 b : OwnY yBlA B w (.slice t.ba t.B.length t.bc) t.B
 n : OwnY yAnA B w (.slice t.na t.N.length t.nc) t.N
set_option maxHeartbeats 1000000 in
theorem copystate9o (s : Sta) (w : World) (hI : s.In w) (hF : s.Fit) (hb1 : ∀ x ∈ s.B,x.s.D.length * 48 ≤ 140737488351232) (hb2 : ∀ x ∈ s.N,x.s.D.length * 48 ≤ 140737488351232) : Calls Tryz.prog 44 #[s.val] w fun e w' => ∃ t : Sta,e = .returned t.val∧t.Cp w.heap.size s w'∧t.Lo w.heap.size∧t.Ow w.heap.size w'∧Below w.heap.size w w':=by
 go_enter Tryz.func44,Tryz.ntmps44
 go_upto_region 0 with fail
 refine wp_region_lit ?_;refine vl_gen (fun T => T.size = 70∧T[0]? = some (gw true (s.val))) ⟨rfl,rfl⟩ (fun Z0 ⟨hz,s0⟩ => ?_)
 obtain ⟨w1,hw1⟩ : ∃ y,y = w.alloc (.cells s.cs.toArray 36):=⟨_,rfl⟩
 have hb : Below w.heap.size w w1:=by rw [hw1];exact (Below.refl _ _).alloc (Nat.le_refl _) _
 have hs1 : w1.heap.size = w.heap.size + 1:=by rw [hw1];simp
 have HS : SB7 w1 (w.heap.size) s:=by rw [hw1];exact BX7.new _ _ _
 refine vw (.pointer (some ⟨w.heap.size,0,none⟩)) w1 (want_none rfl) (ex_box8 rfl (ev s0 rfl) (by rw [hw1];exact bxS7 _ _)) rfl hz (by decide) (fun Z1 zz kk s1x => ?_);clear kk hz s0 hw1;have hz:=zz;have s1:=s1x;clear zz s1x;have hB:=hb;clear hb;have hv0 : Below w1.heap.size w1 w1:=Below.refl _ _
 obtain ⟨w2,hw2⟩ : ∃ y,y = w1.alloc (.cells zS8.cs.toArray 36):=⟨_,rfl⟩
 have hb : Below w1.heap.size w1 w2:=by rw [hw2];exact (Below.refl _ _).alloc (Nat.le_refl _) _
 have HZ : SB7 w2 (w.heap.size + 1) zS8:=by rw [hw2,← hs1];exact BX7.new _ _ _
 have hz2 : w2.heap.size = w.heap.size + 2:=by rw [hw2];simp;omega
 have q99_0:=(Rp.nil hz).cons s1;clear hz s1;refine vw (.pointer (some ⟨w.heap.size + 1,0,none⟩)) w2 (want_none rfl) (ex_al rfl (by rw [hw2,← hs1];exact al12 _)) rfl q99_0.z (by decide) (q99_0.k fun Ya q99_1 => ?_);clear q99_0;have hz:=q99_1.z;have s1:=q99_1.a 1 rfl;have s2:=q99_1.a 2 rfl;clear q99_1;refine wpList_nil ?_;have hB2 : Below w.heap.size w w2:=hB.trans (hb.mono (by omega));have HS:=HS.bel hb;clear hb hw2 hv0 hB;have hB:=hB2;clear hB2;have f1:=hF.ll;have f2:=hF.al;have f3:=hF.ml;have f4:=hF.bl;have f5:=hF.nl;have f6:=hF.vl;have hzB : w2.heap.size ≤ w2.heap.size:=Nat.le_refl _
 go_upto_region 1 with fail
 refine wp_region_lit ?_;have q100_0:=((Rp.nil hz).cons s1).cons s2;clear hz s1 s2
 refine q100_0.t (.pointer (some ⟨w.heap.size,4,none⟩)) (ex_fa rfl (q100_0.e (j:=1) rfl) (faS4 _ _)) fun _ q100_1 => ?_;clear q100_0
 refine q100_1.t (.slice s.la s.L.length s.lc) (ex_ld rfl (q100_1.e (j:=9) rfl) (ldE8 (HS.cell 4 _ rfl))) fun _ q100_2 => ?_;clear q100_1
 refine vcallP (want_none rfl) (ex_call rfl (by simp only [List.map_toArray,List.map_cons,List.map_nil,(q100_2.e (j:=10) rfl),evc] <;> rfl) rfl) (copyent_any s.la _ s.lc s.L w2 (hI.later hB).l (by omega)) rfl q100_2.z (by decide) ?_;rintro e x4 ⟨v4,rfl,o4,b4⟩;obtain ⟨a4,c4,rfl,_,_⟩:=o4.sl kE;refine ⟨_,rfl,q100_2.k fun Yb q100_3 => ?_⟩;clear q100_2;have p4:=Fr8.of_own (B:=w2.heap.size) kE o4 hzB;have o4:=o4.low hzB;have HS:=HS.bel b4;have HZ:=HZ.bel b4;have hB:=hB.trans (b4.mono (by omega));have hzB:=Nat.le_trans hzB b4.size;clear b4
 refine q100_3.t (.pointer (some ⟨w.heap.size,4,none⟩)) (ex_fa rfl (q100_3.e (j:=1) rfl) (faS4 _ _)) fun _ q100_4 => ?_;clear q100_3
 refine vs (x4.setCell ⟨w.heap.size,4,none⟩ (.slice a4 s.L.length c4)) (want_none rfl) (ex_st rfl (q100_4.e (j:=12) rfl) (q100_4.e (j:=11) rfl) (stE8 (HS.cell 4 _ rfl) (HS.free 4) _ _ _)) rfl ?_;have US : Upd (fun k => k = w.heap.size) x4 (x4.setCell ⟨w.heap.size,4,none⟩ (.slice a4 s.L.length c4)):=(Upd.refl (fun k => k = w.heap.size) _).setCell (p:=⟨w.heap.size,4,none⟩) (.inl rfl) _;have HSn:=HS.set (j:=4) (by simp [Sta.cs]) (.slice a4 s.L.length c4)
 obtain ⟨y4,hy4⟩ : ∃ v,v = (x4.setCell ⟨w.heap.size,4,none⟩ (.slice a4 s.L.length c4)):=⟨_,rfl⟩
 rw [← hy4] at US HSn ⊢;clear hy4 HS;have HS : SB7 y4 (w.heap.size) { s with la:=a4,lc:=c4 }:=HSn;clear HSn;have HZ:=HZ.upd US (by show ¬ w.heap.size + 1 = w.heap.size;omega);have hB:=hB.trans (US.below hB.size (fun k hk => by omega));have p4:=p4.set US (by omega);have o4:=o4.set9 US (by omega);have hzB:=Nat.le_trans hzB US.size;clear US;have hz:=q100_4.z;have s1:=q100_4.a 1 rfl;have s2:=q100_4.a 2 rfl;clear q100_4;refine wpList_nil ?_
 go_upto_region 2 with fail
 refine wp_region_lit ?_;have q101_0:=((Rp.nil hz).cons s1).cons s2;clear hz s1 s2
 refine q101_0.t (.pointer (some ⟨w.heap.size,6,none⟩)) (ex_fa rfl (q101_0.e (j:=1) rfl) (faS6 _ _)) fun _ q101_1 => ?_;clear q101_0
 refine q101_1.t (.slice s.va s.V.length s.vc) (ex_ld rfl (q101_1.e (j:=13) rfl) (ldV8 (HS.cell 6 _ rfl))) fun _ q101_2 => ?_;clear q101_1
 refine vcallP (want_none rfl) (ex_call rfl (by simp only [List.map_toArray,List.map_cons,List.map_nil,(q101_2.e (j:=14) rfl),evc] <;> rfl) rfl) (copyvecY s.va _ s.vc s.V y4 (hI.later hB).v (by omega)) rfl q101_2.z (by decide) ?_;rintro e x6 ⟨v6,rfl,o6,b6⟩;obtain ⟨a6,c6,rfl,_,_⟩:=o6.sl kD;refine ⟨_,rfl,q101_2.k fun Yc q101_3 => ?_⟩;clear q101_2;have p6:=Fr8.of_own (B:=w2.heap.size) kD o6 hzB;have o6:=o6.low hzB;have HS:=HS.bel b6;have HZ:=HZ.bel b6;have hB:=hB.trans (b6.mono (by omega));have p4:=p4.later b6;have o4:=o4.grow b6;have hzB:=Nat.le_trans hzB b6.size;clear b6
 refine q101_3.t (.pointer (some ⟨w.heap.size,6,none⟩)) (ex_fa rfl (q101_3.e (j:=1) rfl) (faS6 _ _)) fun _ q101_4 => ?_;clear q101_3
 refine vs (x6.setCell ⟨w.heap.size,6,none⟩ (.slice a6 s.V.length c6)) (want_none rfl) (ex_st rfl (q101_4.e (j:=16) rfl) (q101_4.e (j:=15) rfl) (stV8 (HS.cell 6 _ rfl) (HS.free 6) _ _ _)) rfl ?_;have US : Upd (fun k => k = w.heap.size) x6 (x6.setCell ⟨w.heap.size,6,none⟩ (.slice a6 s.V.length c6)):=(Upd.refl (fun k => k = w.heap.size) _).setCell (p:=⟨w.heap.size,6,none⟩) (.inl rfl) _;have HSn:=HS.set (j:=6) (by simp [Sta.cs]) (.slice a6 s.V.length c6)
 obtain ⟨y6,hy6⟩ : ∃ v,v = (x6.setCell ⟨w.heap.size,6,none⟩ (.slice a6 s.V.length c6)):=⟨_,rfl⟩
 rw [← hy6] at US HSn ⊢;clear hy6 HS;have HS : SB7 y6 (w.heap.size) { s with la:=a4,lc:=c4,va:=a6,vc:=c6 }:=HSn;clear HSn;have HZ:=HZ.upd US (by show ¬ w.heap.size + 1 = w.heap.size;omega);have hB:=hB.trans (US.below hB.size (fun k hk => by omega));have p4:=p4.set US (by omega);have o4:=o4.set9 US (by omega);have p6:=p6.set US (by omega);have o6:=o6.set9 US (by omega);have hzB:=Nat.le_trans hzB US.size;clear US;have hz:=q101_4.z;have s1:=q101_4.a 1 rfl;have s2:=q101_4.a 2 rfl;clear q101_4;refine wpList_nil ?_
 go_upto_region 3 with fail
 refine wp_region_lit ?_;have q102_0:=((Rp.nil hz).cons s1).cons s2;clear hz s1 s2
 refine q102_0.t (.pointer (some ⟨w.heap.size,8,none⟩)) (ex_fa rfl (q102_0.e (j:=1) rfl) (faS8 _ _)) fun _ q102_1 => ?_;clear q102_0
 refine q102_1.t (.slice s.ka s.A.length s.kc) (ex_ld rfl (q102_1.e (j:=17) rfl) (ldK8 (HS.cell 8 _ rfl))) fun _ q102_2 => ?_;clear q102_1
 obtain ⟨v8,x8,hr8,o8,g8,_⟩:=run_appY kAkA y6 31 y6.heap.size [] (.slice none 0 0) _ _ _ _ (hI.later hB).a (OwnY.nil _ _ _) (Nat.le_refl _) (by unfold maxLen;simp;omega) (by show (0 + s.A.length) * 32 ≤ _;omega);have b8 : Below y6.heap.size y6 x8:=(OwnY.nil yAkA y6.heap.size y6).grown (Below.refl _ _) g8 (Nat.le_refl _);rw [List.nil_append] at o8;obtain ⟨a8,c8,rfl,_,_⟩:=o8.sl kAkA;have p8:=Fr8.of_own (B:=w2.heap.size) kAkA o8 hzB;have o8:=o8.low hzB;refine vw (.slice a8 s.A.length c8) x8 (want_none rfl) (ex_app8 rfl rfl (q102_2.e (j:=18) rfl) hr8) rfl q102_2.z (by decide) (q102_2.k fun Yd q102_3 => ?_);clear q102_2;clear hr8 g8;have HS:=HS.bel b8;have HZ:=HZ.bel b8;have hB:=hB.trans (b8.mono (by omega));have p4:=p4.later b8;have o4:=o4.grow b8;have p6:=p6.later b8;have o6:=o6.grow b8;have hzB:=Nat.le_trans hzB b8.size;clear b8
 refine q102_3.t (.pointer (some ⟨w.heap.size,8,none⟩)) (ex_fa rfl (q102_3.e (j:=1) rfl) (faS8 _ _)) fun _ q102_4 => ?_;clear q102_3
 refine vs (x8.setCell ⟨w.heap.size,8,none⟩ (.slice a8 s.A.length c8)) (want_none rfl) (ex_st rfl (q102_4.e (j:=20) rfl) (q102_4.e (j:=19) rfl) (stK8 (HS.cell 8 _ rfl) (HS.free 8) _ _ _)) rfl ?_;have US : Upd (fun k => k = w.heap.size) x8 (x8.setCell ⟨w.heap.size,8,none⟩ (.slice a8 s.A.length c8)):=(Upd.refl (fun k => k = w.heap.size) _).setCell (p:=⟨w.heap.size,8,none⟩) (.inl rfl) _;have HSn:=HS.set (j:=8) (by simp [Sta.cs]) (.slice a8 s.A.length c8)
 obtain ⟨y8,hy8⟩ : ∃ v,v = (x8.setCell ⟨w.heap.size,8,none⟩ (.slice a8 s.A.length c8)):=⟨_,rfl⟩
 rw [← hy8] at US HSn ⊢;clear hy8 HS;have HS : SB7 y8 (w.heap.size) { s with la:=a4,lc:=c4,va:=a6,vc:=c6,ka:=a8,kc:=c8 }:=HSn;clear HSn;have HZ:=HZ.upd US (by show ¬ w.heap.size + 1 = w.heap.size;omega);have hB:=hB.trans (US.below hB.size (fun k hk => by omega));have p4:=p4.set US (by omega);have o4:=o4.set9 US (by omega);have p6:=p6.set US (by omega);have o6:=o6.set9 US (by omega);have p8:=p8.set US (by omega);have o8:=o8.set9 US (by omega);have hzB:=Nat.le_trans hzB US.size;clear US;have hz:=q102_4.z;have s1:=q102_4.a 1 rfl;have s2:=q102_4.a 2 rfl;clear q102_4;refine wpList_nil ?_
 go_upto_region 4 with fail
 refine wp_region_lit ?_;have q103_0:=((Rp.nil hz).cons s1).cons s2;clear hz s1 s2
 refine q103_0.t (.pointer (some ⟨w.heap.size,9,none⟩)) (ex_fa rfl (q103_0.e (j:=1) rfl) (faS9 _ _)) fun _ q103_1 => ?_;clear q103_0
 refine q103_1.t (.slice s.ma s.M.length s.mc) (ex_ld rfl (q103_1.e (j:=21) rfl) (ldM8 (HS.cell 9 _ rfl))) fun _ q103_2 => ?_;clear q103_1
 obtain ⟨v9,x9,hr9,o9,g9,_⟩:=run_appY kMkA y8 32 y8.heap.size [] (.slice none 0 0) _ _ _ _ (hI.later hB).m (OwnY.nil _ _ _) (Nat.le_refl _) (by unfold maxLen;simp;omega) (by show (0 + s.M.length) * 24 ≤ _;omega);have b9 : Below y8.heap.size y8 x9:=(OwnY.nil yMkA y8.heap.size y8).grown (Below.refl _ _) g9 (Nat.le_refl _);rw [List.nil_append] at o9;obtain ⟨a9,c9,rfl,_,_⟩:=o9.sl kMkA;have p9:=Fr8.of_own (B:=w2.heap.size) kMkA o9 hzB;have o9:=o9.low hzB;refine vw (.slice a9 s.M.length c9) x9 (want_none rfl) (ex_app8 rfl rfl (q103_2.e (j:=22) rfl) hr9) rfl q103_2.z (by decide) (q103_2.k fun Ye q103_3 => ?_);clear q103_2;clear hr9 g9;have HS:=HS.bel b9;have HZ:=HZ.bel b9;have hB:=hB.trans (b9.mono (by omega));have p4:=p4.later b9;have o4:=o4.grow b9;have p6:=p6.later b9;have o6:=o6.grow b9;have p8:=p8.later b9;have o8:=o8.grow b9;have hzB:=Nat.le_trans hzB b9.size;clear b9
 refine q103_3.t (.pointer (some ⟨w.heap.size,9,none⟩)) (ex_fa rfl (q103_3.e (j:=1) rfl) (faS9 _ _)) fun _ q103_4 => ?_;clear q103_3
 refine vs (x9.setCell ⟨w.heap.size,9,none⟩ (.slice a9 s.M.length c9)) (want_none rfl) (ex_st rfl (q103_4.e (j:=24) rfl) (q103_4.e (j:=23) rfl) (stM8 (HS.cell 9 _ rfl) (HS.free 9) _ _ _)) rfl ?_;have US : Upd (fun k => k = w.heap.size) x9 (x9.setCell ⟨w.heap.size,9,none⟩ (.slice a9 s.M.length c9)):=(Upd.refl (fun k => k = w.heap.size) _).setCell (p:=⟨w.heap.size,9,none⟩) (.inl rfl) _;have HSn:=HS.set (j:=9) (by simp [Sta.cs]) (.slice a9 s.M.length c9)
 obtain ⟨y9,hy9⟩ : ∃ v,v = (x9.setCell ⟨w.heap.size,9,none⟩ (.slice a9 s.M.length c9)):=⟨_,rfl⟩
 rw [← hy9] at US HSn ⊢;clear hy9 HS;have HS : SB7 y9 (w.heap.size) { s with la:=a4,lc:=c4,va:=a6,vc:=c6,ka:=a8,kc:=c8,ma:=a9,mc:=c9 }:=HSn;clear HSn;have HZ:=HZ.upd US (by show ¬ w.heap.size + 1 = w.heap.size;omega);have hB:=hB.trans (US.below hB.size (fun k hk => by omega));have p4:=p4.set US (by omega);have o4:=o4.set9 US (by omega);have p6:=p6.set US (by omega);have o6:=o6.set9 US (by omega);have p8:=p8.set US (by omega);have o8:=o8.set9 US (by omega);have p9:=p9.set US (by omega);have o9:=o9.set9 US (by omega);have hzB:=Nat.le_trans hzB US.size;clear US;have hz:=q103_4.z;have s1:=q103_4.a 1 rfl;have s2:=q103_4.a 2 rfl;clear q103_4;refine wpList_nil ?_
 go_upto_region 5 with fail
 refine wp_region_lit ?_;have q104_0:=((Rp.nil hz).cons s1).cons s2;clear hz s1 s2
 refine q104_0.t (.slice none 0 0) (ex_assign rfl rfl) fun _ q104_1 => ?_;clear q104_0
 have hz:=q104_1.z;have s1:=q104_1.a 1 rfl;have s2:=q104_1.a 2 rfl;have s3:=q104_1.a 3 rfl;clear q104_1;refine wpList_nil ?_
 go_upto_region 6 with fail
 refine wp_region_lit ?_;have q105_0:=(((Rp.nil hz).cons s1).cons s2).cons s3;clear hz s1 s2 s3
 refine q105_0.t (.int .i64 0) (ex_assign rfl rfl) fun _ q105_1 => ?_;clear q105_0
 have hz:=q105_1.z;have s1:=q105_1.a 1 rfl;have s2:=q105_1.a 2 rfl;have s3:=q105_1.a 3 rfl;have s4:=q105_1.a 4 rfl;clear q105_1;refine wpList_nil ?_;have hsv : _ = some (gw true (.int .i64 ((0 : Nat) : Int))):=s4
 go_upto_region 7 with fail
 refine v_loop 4 s.B.length (fun i T wr => T.size = 70∧T[1]? = some (gw true (.pointer (some ⟨w.heap.size,0,none⟩)))∧T[2]? = some (gw true (.pointer (some ⟨w.heap.size + 1,0,none⟩)))∧T[4]? = some (gw true (.int .i64 (i : Int)))∧Hid (∃ vb R,T[3]? = some (gw true vb)∧OwnY yBlA y9.heap.size wr vb R∧Bl.Cps y9.heap.size wr (s.B.take i) R∧Below y9.heap.size y9 wr)) (fun i T w h => h.2.2.2.1) ⟨hz,s1,s2,hsv,_,_,s3,OwnY.nil _ _ _,Bl.Cps.nil _ _,Below.refl _ _⟩ ?_;clear hz s1 s2 s4 s3 hsv;intro i R10 wr hi hh;obtain ⟨hz,s1,s2,s4,HJ⟩:=hh;obtain ⟨vb,R,s3,oB,cB,hbr⟩:=HJ.out;clear HJ;have hzr:=hbr.size;have hBr:=hB.trans (hbr.mono (by omega));have HSr:=HS.bel hbr;have HIr:=(hI.later hBr).b
 by_cases hit : i < s.B.length
 ·have d1 : decide ((i : Int) < (s.B.length : Int)) = true:=decide_eq_true (by omega)
  go_upto_region 7 with fail
  refine wp_region_lit ?_;have q106_0:=((((Rp.nil hz).cons s1).cons s2).cons s3).cons s4;clear hz s1 s2 s3 s4
  refine q106_0.t _ (ex_move rfl (q106_0.e (j:=4) rfl)) fun _ q106_1 => ?_;clear q106_0
  refine q106_1.t (.pointer (some ⟨w.heap.size,10,none⟩)) (ex_fa rfl (q106_1.e (j:=1) rfl) (faS10 _ _)) fun _ q106_2 => ?_;clear q106_1
  refine q106_2.t (.slice s.ba s.B.length s.bc) (ex_ld rfl (q106_2.e (j:=26) rfl) (ldB8 (HSr.cell 10 _ rfl))) fun _ q106_3 => ?_;clear q106_2
  refine q106_3.t (.int .i64 (s.B.length : Int)) (ex_lenB8 rfl rfl (q106_3.e (j:=27) rfl)) fun _ q106_4 => ?_;clear q106_3
  refine q106_4.t (.bool true) (ex_bin rfl (q106_4.e (j:=25) rfl) (q106_4.e (j:=28) rfl) (lssD8 _ _ _ _ true d1 _)) fun _ q106_5 => ?_;clear q106_4
  have hz:=q106_5.z;have s1:=q106_5.a 1 rfl;have s2:=q106_5.a 2 rfl;have s3:=q106_5.a 3 rfl;have s4:=q106_5.a 4 rfl;have s29:=q106_5.a 29 rfl;clear q106_5;refine wpList_nil ?_
  go_upto_region 9 with fail
  refine wp_cond_true ((ev s29 rfl).trans rfl) ?_;clear s29 d1
  obtain ⟨x,hxi⟩ : ∃ x,s.B[i]? = some x:=⟨_,List.getElem?_eq_getElem hit⟩
  have hmem:=List.mem_of_getElem? hxi;obtain ⟨q,o,hqa,hq,hl⟩:=HIr.place (by intro e;rw [e] at hit;simp at hit)
  obtain ⟨e1,he1⟩ : ∃ y,y = wr.alloc (.cells zBl9.cs.toArray 114):=⟨_,rfl⟩
  have hb : Below wr.heap.size wr e1:=by rw [he1];exact (Below.refl _ _).alloc (Nat.le_refl _) _
  have HA : BX7 e1 wr.heap.size zBl9.cs:=by rw [he1];exact BX7.new _ _ _
  go_upto_region 9 with fail
  refine wp_region_lit ?_;have q107_0:=((((Rp.nil hz).cons s1).cons s2).cons s3).cons s4;clear hz s1 s2 s3 s4
  refine q107_0.t (.pointer (some ⟨w.heap.size,10,none⟩)) (ex_fa rfl (q107_0.e (j:=1) rfl) (faS10 _ _)) fun _ q107_1 => ?_;clear q107_0
  refine q107_1.t (.slice s.ba s.B.length s.bc) (ex_ld rfl (q107_1.e (j:=32) rfl) (ldB8 (HSr.cell 10 _ rfl))) fun _ q107_2 => ?_;clear q107_1
  refine q107_2.t _ (ex_move rfl (q107_2.e (j:=4) rfl)) fun _ q107_3 => ?_;clear q107_2
  refine q107_3.t (.pointer (some ⟨q,o + i * 6,none⟩)) (ex_ix rfl (q107_3.e (j:=33) rfl) (q107_3.e (j:=34) rfl) (by rw [hqa];exact ix9Bl q o s.B.length s.bc i hit _)) fun _ q107_4 => ?_;clear q107_3
  refine q107_4.t (x.val) (ex_ld rfl (q107_4.e (j:=35) rfl) (ldBl9 (fun k u hu => hl i x hxi k u hu))) fun _ q107_5 => ?_;clear q107_4
  refine vw (.pointer (some ⟨wr.heap.size,0,none⟩)) e1 (want_none rfl) (ex_al rfl (by rw [he1];exact alBl9 _)) rfl q107_5.z (by decide) (q107_5.k fun Yf q107_6 => ?_);clear q107_5;refine vs (sets e1 wr.heap.size 0 x.cs) (want_none rfl) (ex_st rfl (q107_6.e (j:=5) rfl) (q107_6.e (j:=36) rfl) (stBl9 HA x)) rfl ?_;have HP:=putBl9 HA x;have UP:=upBl9 e1 wr.heap.size x
  obtain ⟨e2,he2⟩ : ∃ v,v = sets e1 wr.heap.size 0 x.cs:=⟨_,rfl⟩
  rw [← he2] at HP UP ⊢;have hby : Below wr.heap.size wr e2:=hb.trans (UP.below hb.size (fun k hk => by omega));clear he2 he1 HA UP hb hl;have zy:=hby.size;have hqe:=HP.lt;have hz:=q107_6.z;have s1:=q107_6.a 1 rfl;have s2:=q107_6.a 2 rfl;have s3:=q107_6.a 3 rfl;have s4:=q107_6.a 4 rfl;have s5:=q107_6.a 5 rfl;clear q107_6;refine wpList_nil ?_;have xin:=((hI.later hBr).bl x hmem).1.later hby;have xb:=hb1 x hmem
  go_upto_region 10 with fail
  refine wp_region_lit ?_;have q108_0:=(((((Rp.nil hz).cons s1).cons s2).cons s3).cons s4).cons s5;clear hz s1 s2 s3 s4 s5
  refine q108_0.t (.pointer (some ⟨wr.heap.size,5,none⟩)) (ex_fa rfl (q108_0.e (j:=5) rfl) (fb4Bl _ _)) fun _ q108_1 => ?_;clear q108_0
  refine q108_1.t (.slice x.s.a x.s.D.length x.s.c) (ex_ld rfl (q108_1.e (j:=37) rfl) (ldE8 (HP.cell 5 _ rfl))) fun _ q108_2 => ?_;clear q108_1
  refine vcallP (want_none rfl) (ex_call rfl (by simp only [List.map_toArray,List.map_cons,List.map_nil,(q108_2.e (j:=38) rfl),evc] <;> rfl) rfl) (copyent_any x.s.a _ x.s.c x.s.D e2 xin (by omega)) rfl q108_2.z (by decide) ?_;rintro e e3 ⟨vl,rfl,ol,bl⟩;obtain ⟨al,cl,rfl,_,_⟩:=ol.sl kE;refine ⟨_,rfl,q108_2.k fun Yg q108_3 => ?_⟩;clear q108_2;have HP:=HP.bel bl;have zl:=bl.size;have hbz:=hby.trans (bl.mono zy);clear bl hby
  refine q108_3.t (.pointer (some ⟨wr.heap.size,5,none⟩)) (ex_fa rfl (q108_3.e (j:=5) rfl) (fb4Bl _ _)) fun _ q108_4 => ?_;clear q108_3
  refine vs (e3.setCell ⟨wr.heap.size,5,none⟩ (.slice al x.s.D.length cl)) (want_none rfl) (ex_st rfl (q108_4.e (j:=40) rfl) (q108_4.e (j:=39) rfl) (stE8 (HP.cell 5 _ rfl) (HP.free 5) _ _ _)) rfl ?_;have HPn:=HP.set (j:=5) (by simp [Bl.cs]) (.slice al x.s.D.length cl);have US : Upd (fun k => k = wr.heap.size) e3 (e3.setCell ⟨wr.heap.size,5,none⟩ (.slice al x.s.D.length cl)):=(Upd.refl (fun k => k = wr.heap.size) _).setCell (p:=⟨wr.heap.size,5,none⟩) (.inl rfl) _
  obtain ⟨e4,he4⟩ : ∃ v,v = e3.setCell ⟨wr.heap.size,5,none⟩ (.slice al x.s.D.length cl):=⟨_,rfl⟩
  rw [← he4] at HPn US ⊢;clear he4 HP;have HP : BX7 e4 wr.heap.size ({ x with s:=⟨al,cl,x.s.D⟩ } : Bl).cs:=HPn;clear HPn;have ol:=ol.upd1 US (fun k hk e => by have:=(ol.blk k hk).1;omega);have hbz:=hbz.trans (US.below (by omega) (fun k hk => by omega));have z4:=US.size;clear US;have hz:=q108_4.z;have s1:=q108_4.a 1 rfl;have s2:=q108_4.a 2 rfl;have s3:=q108_4.a 3 rfl;have s4:=q108_4.a 4 rfl;have s5:=q108_4.a 5 rfl;clear q108_4;refine wpList_nil ?_;have oB:=oB.grow hbz;have cB:=cB.bel hbz;have hzz:=hbz.size
  go_upto_region 11 with fail
  refine wp_region_lit ?_;have q109_0:=(((((Rp.nil hz).cons s1).cons s2).cons s3).cons s4).cons s5;clear hz s1 s2 s3 s4 s5
  refine q109_0.t _ (ex_move rfl (q109_0.e (j:=3) rfl)) fun _ q109_1 => ?_;clear q109_0
  refine q109_1.t (Bl.val ({ x with s:=⟨al,cl,x.s.D⟩ } : Bl)) (ex_ld rfl (q109_1.e (j:=5) rfl) (ldbBl9 HP)) fun _ q109_2 => ?_;clear q109_1
  obtain ⟨e5,he5⟩ : ∃ v,v = e4.alloc (.cells (yBlA.cs ({ x with s:=⟨al,cl,x.s.D⟩ } : Bl)).toArray 114):=⟨_,rfl⟩
  have b5 : Below e4.heap.size e4 e5:=by rw [he5];exact (Below.refl _ _).alloc (Nat.le_refl _) _
  have p5 : SlY yBlA e5 (some ⟨e4.heap.size,0,none⟩) 1 1 [({ x with s:=⟨al,cl,x.s.D⟩ } : Bl)]:=by rw [he5];exact one9 yBlA e4 ({ x with s:=⟨al,cl,x.s.D⟩ } : Bl)
  have z5:=b5.size
  have hlR : R.length = i:=by rw [cB.1,List.length_take];omega
  obtain ⟨vb2,e6,hr6,oB6,g6,_⟩:=run_appY kBlA e5 33 y9.heap.size _ vb _ _ _ _ p5 (oB.grow b5) (by omega) (by rw [hlR];unfold maxLen;omega) (by rw [hlR];show (i + 1) * 64 ≤ _;omega);have cB6:=(cB.bel b5).row (oB.grow b5) g6;have ol6:=(ol.grow b5).grownZ (oB.grow b5) (by decide) g6;have hb6 : Below y9.heap.size y9 e6:=(oB.grow b5).grown ((hbr.trans (hbz.mono (by omega))).trans (b5.mono (by omega))) g6 (by omega);refine vw (.slice (some ⟨e4.heap.size,0,none⟩) 1 1) e5 (want_none rfl) (ex_bs8 rfl (q109_2.e (j:=42) rfl) (by rw [he5];exact bsBl9 ({ x with s:=⟨al,cl,x.s.D⟩ } : Bl) _)) rfl q109_2.z (by decide) (q109_2.k fun Yh q109_3 => ?_);clear q109_2;refine vw (vb2) e6 (want_none rfl) (ex_app8 rfl (q109_3.e (j:=41) rfl) (q109_3.e (j:=43) rfl) hr6) rfl q109_3.z (by decide) (q109_3.k fun Yi q109_4 => ?_);clear q109_3;clear hr6 g6 p5 he5
  refine q109_4.t _ (ex_assign rfl (q109_4.e (j:=44) rfl)) fun _ q109_5 => ?_;clear q109_4
  have hz:=q109_5.z;have s1:=q109_5.a 1 rfl;have s2:=q109_5.a 2 rfl;have s3:=q109_5.a 3 rfl;have s4:=q109_5.a 4 rfl;clear q109_5;refine wpList_nil ?_
  go_upto_region 8 with fail
  refine wp_region_lit ?_;have q110_0:=((((Rp.nil hz).cons s1).cons s2).cons s3).cons s4;clear hz s1 s2 s3 s4
  refine q110_0.t _ (ex_move rfl (q110_0.e (j:=4) rfl)) fun _ q110_1 => ?_;clear q110_0
  refine q110_1.t (.int .i64 ((i + 1 : Nat) : Int)) (ex_bin rfl (q110_1.e (j:=30) rfl) rfl (addD8 _ _ _ 1 ((i + 1 : Nat) : Int) (by rw [IntKind.wrap_i64];omega) _)) fun _ q110_2 => ?_;clear q110_1
  refine q110_2.t _ (ex_assign rfl (q110_2.e (j:=31) rfl)) fun _ q110_3 => ?_;clear q110_2
  have hz:=q110_3.z;have s1:=q110_3.a 1 rfl;have s2:=q110_3.a 2 rfl;have s3:=q110_3.a 3 rfl;have s4:=q110_3.a 4 rfl;clear q110_3;refine wpList_nil ?_
  have et : s.B.take (i + 1) = s.B.take i ++ [x]:=by rw [List.take_add_one,hxi];rfl
  exact ⟨_,rfl,by omega,hz,s1,s2,s4,vb2,_,s3,oB6,by rw [et];exact cB6.snoc ⟨⟨rfl,rfl,rfl,rfl,rfl,rfl⟩,ol6.low (by omega),by show x.s.D.length * 48 ≤ _;omega⟩,hb6⟩
 ·have d1 : decide ((i : Int) < (s.B.length : Int)) = false:=decide_eq_false (by omega)
  go_upto_region 7 with fail
  refine wp_region_lit ?_;have q111_0:=((((Rp.nil hz).cons s1).cons s2).cons s3).cons s4;clear hz s1 s2 s3 s4
  refine q111_0.t _ (ex_move rfl (q111_0.e (j:=4) rfl)) fun _ q111_1 => ?_;clear q111_0
  refine q111_1.t (.pointer (some ⟨w.heap.size,10,none⟩)) (ex_fa rfl (q111_1.e (j:=1) rfl) (faS10 _ _)) fun _ q111_2 => ?_;clear q111_1
  refine q111_2.t (.slice s.ba s.B.length s.bc) (ex_ld rfl (q111_2.e (j:=26) rfl) (ldB8 (HSr.cell 10 _ rfl))) fun _ q111_3 => ?_;clear q111_2
  refine q111_3.t (.int .i64 (s.B.length : Int)) (ex_lenB8 rfl rfl (q111_3.e (j:=27) rfl)) fun _ q111_4 => ?_;clear q111_3
  refine q111_4.t (.bool false) (ex_bin rfl (q111_4.e (j:=25) rfl) (q111_4.e (j:=28) rfl) (lssD8 _ _ _ _ false d1 _)) fun _ q111_5 => ?_;clear q111_4
  have hz:=q111_5.z;have s1:=q111_5.a 1 rfl;have s2:=q111_5.a 2 rfl;have s3:=q111_5.a 3 rfl;have s29:=q111_5.a 29 rfl;clear q111_5;refine wpList_nil ?_
  go_upto_region 12 with fail
  refine wp_cond_false ((ev s29 rfl).trans rfl) ?_;clear s29 d1
  obtain rfl : i = s.B.length:=by omega
  rw [List.take_length] at cB;obtain ⟨a10,c10,hvb,_,_⟩:=oB.sl kBlA;rw [hvb] at s3 oB;have p10:=Fr8.of_own (B:=w2.heap.size) kBlA oB hzB;have o10:=oB.low hzB;have t10:=cB.low (B':=w2.heap.size) hzB;clear hvb oB cB HIr HSr hBr hit hi
  obtain ⟨x10,hX⟩ : ∃ v,v = wr:=⟨_,rfl⟩
  obtain ⟨L10,hL10⟩ : ∃ v,v = R:=⟨_,rfl⟩
  rw [← hL10] at p10 t10 o10 s3;rw [← hX] at p10 t10 o10 hbr hzr ⊢;clear hX;clear hL10;have HS:=HS.bel hbr;have HZ:=HZ.bel hbr;have hB:=hB.trans (hbr.mono (by omega));have p4:=p4.later hbr;have o4:=o4.grow hbr;have p6:=p6.later hbr;have o6:=o6.grow hbr;have p8:=p8.later hbr;have o8:=o8.grow hbr;have p9:=p9.later hbr;have o9:=o9.grow hbr;have hzB:=Nat.le_trans hzB hbr.size;clear hbr
  go_upto_region 12 with fail
  refine wp_region_lit ?_;have q112_0:=(((Rp.nil hz).cons s1).cons s2).cons s3;clear hz s1 s2 s3
  refine q112_0.t _ (ex_move rfl (q112_0.e (j:=3) rfl)) fun _ q112_1 => ?_;clear q112_0
  refine q112_1.t (.pointer (some ⟨w.heap.size,10,none⟩)) (ex_fa rfl (q112_1.e (j:=1) rfl) (faS10 _ _)) fun _ q112_2 => ?_;clear q112_1
  refine vs (x10.setCell ⟨w.heap.size,10,none⟩ (.slice a10 L10.length c10)) (want_none rfl) (ex_st rfl (q112_2.e (j:=46) rfl) (q112_2.e (j:=45) rfl) (stB8 (HS.cell 10 _ rfl) (HS.free 10) _ _ _)) rfl ?_;have US : Upd (fun k => k = w.heap.size) x10 (x10.setCell ⟨w.heap.size,10,none⟩ (.slice a10 L10.length c10)):=(Upd.refl (fun k => k = w.heap.size) _).setCell (p:=⟨w.heap.size,10,none⟩) (.inl rfl) _;have HSn:=HS.set (j:=10) (by simp [Sta.cs]) (.slice a10 L10.length c10)
  obtain ⟨y10,hy10⟩ : ∃ v,v = (x10.setCell ⟨w.heap.size,10,none⟩ (.slice a10 L10.length c10)):=⟨_,rfl⟩
  rw [← hy10] at US HSn ⊢;clear hy10 HS;have HS : SB7 y10 (w.heap.size) { s with la:=a4,lc:=c4,va:=a6,vc:=c6,ka:=a8,kc:=c8,ma:=a9,mc:=c9,ba:=a10,bc:=c10,B:=L10 }:=HSn;clear HSn;have HZ:=HZ.upd US (by show ¬ w.heap.size + 1 = w.heap.size;omega);have hB:=hB.trans (US.below hB.size (fun k hk => by omega));have p4:=p4.set US (by omega);have o4:=o4.set9 US (by omega);have p6:=p6.set US (by omega);have o6:=o6.set9 US (by omega);have p8:=p8.set US (by omega);have o8:=o8.set9 US (by omega);have p9:=p9.set US (by omega);have o9:=o9.set9 US (by omega);have p10:=p10.set US (by omega);have t10:=t10.set8 US (by omega);have o10:=o10.set9 US (by omega);have hzB:=Nat.le_trans hzB US.size;clear US;have hz:=q112_2.z;have s1:=q112_2.a 1 rfl;have s2:=q112_2.a 2 rfl;clear q112_2;refine wpList_nil ?_
  go_upto_region 13 with fail
  refine wp_region_lit ?_;have q113_0:=((Rp.nil hz).cons s1).cons s2;clear hz s1 s2
  refine q113_0.t (.slice none 0 0) (ex_assign rfl rfl) fun _ q113_1 => ?_;clear q113_0
  have hz:=q113_1.z;have s1:=q113_1.a 1 rfl;have s2:=q113_1.a 2 rfl;have s6:=q113_1.a 6 rfl;clear q113_1;refine wpList_nil ?_
  go_upto_region 14 with fail
  refine wp_region_lit ?_;have q114_0:=(((Rp.nil hz).cons s1).cons s2).cons s6;clear hz s1 s2 s6
  refine q114_0.t (.int .i64 0) (ex_assign rfl rfl) fun _ q114_1 => ?_;clear q114_0
  have hz:=q114_1.z;have s1:=q114_1.a 1 rfl;have s2:=q114_1.a 2 rfl;have s6:=q114_1.a 6 rfl;have s7:=q114_1.a 7 rfl;clear q114_1;refine wpList_nil ?_;have hsv : _ = some (gw true (.int .i64 ((0 : Nat) : Int))):=s7
  go_upto_region 15 with fail
  refine v_loop 7 s.N.length (fun i T wr => T.size = 70∧T[1]? = some (gw true (.pointer (some ⟨w.heap.size,0,none⟩)))∧T[2]? = some (gw true (.pointer (some ⟨w.heap.size + 1,0,none⟩)))∧T[7]? = some (gw true (.int .i64 (i : Int)))∧Hid (∃ vb R,T[6]? = some (gw true vb)∧OwnY yAnA y10.heap.size wr vb R∧An.Cps y10.heap.size wr (s.N.take i) R∧Below y10.heap.size y10 wr)) (fun i T w h => h.2.2.2.1) ⟨hz,s1,s2,hsv,_,_,s6,OwnY.nil _ _ _,An.Cps.nil _ _,Below.refl _ _⟩ ?_;clear hz s1 s2 s7 s6 hsv;intro i R11 wr hi hh;obtain ⟨hz,s1,s2,s7,HJ⟩:=hh;obtain ⟨vb,R,s6,oB,cB,hbr⟩:=HJ.out;clear HJ;have hzr:=hbr.size;have hBr:=hB.trans (hbr.mono (by omega));have HSr:=HS.bel hbr;have HIr:=(hI.later hBr).n
  by_cases hit : i < s.N.length
  ·have d1 : decide ((i : Int) < (s.N.length : Int)) = true:=decide_eq_true (by omega)
   go_upto_region 15 with fail
   refine wp_region_lit ?_;have q115_0:=((((Rp.nil hz).cons s1).cons s2).cons s6).cons s7;clear hz s1 s2 s6 s7
   refine q115_0.t _ (ex_move rfl (q115_0.e (j:=7) rfl)) fun _ q115_1 => ?_;clear q115_0
   refine q115_1.t (.pointer (some ⟨w.heap.size,11,none⟩)) (ex_fa rfl (q115_1.e (j:=1) rfl) (faS11 _ _)) fun _ q115_2 => ?_;clear q115_1
   refine q115_2.t (.slice s.na s.N.length s.nc) (ex_ld rfl (q115_2.e (j:=48) rfl) (ldN8 (HSr.cell 11 _ rfl))) fun _ q115_3 => ?_;clear q115_2
   refine q115_3.t (.int .i64 (s.N.length : Int)) (ex_lenN8 rfl rfl (q115_3.e (j:=49) rfl)) fun _ q115_4 => ?_;clear q115_3
   refine q115_4.t (.bool true) (ex_bin rfl (q115_4.e (j:=47) rfl) (q115_4.e (j:=50) rfl) (lssD8 _ _ _ _ true d1 _)) fun _ q115_5 => ?_;clear q115_4
   have hz:=q115_5.z;have s1:=q115_5.a 1 rfl;have s2:=q115_5.a 2 rfl;have s6:=q115_5.a 6 rfl;have s7:=q115_5.a 7 rfl;have s51:=q115_5.a 51 rfl;clear q115_5;refine wpList_nil ?_
   go_upto_region 17 with fail
   refine wp_cond_true ((ev s51 rfl).trans rfl) ?_;clear s51 d1
   obtain ⟨x,hxi⟩ : ∃ x,s.N[i]? = some x:=⟨_,List.getElem?_eq_getElem hit⟩
   have hmem:=List.mem_of_getElem? hxi;obtain ⟨q,o,hqa,hq,hl⟩:=HIr.place (by intro e;rw [e] at hit;simp at hit)
   obtain ⟨e1,he1⟩ : ∃ y,y = wr.alloc (.cells zAn9.cs.toArray 116):=⟨_,rfl⟩
   have hb : Below wr.heap.size wr e1:=by rw [he1];exact (Below.refl _ _).alloc (Nat.le_refl _) _
   have HA : BX7 e1 wr.heap.size zAn9.cs:=by rw [he1];exact BX7.new _ _ _
   go_upto_region 17 with fail
   refine wp_region_lit ?_;have q116_0:=((((Rp.nil hz).cons s1).cons s2).cons s6).cons s7;clear hz s1 s2 s6 s7
   refine q116_0.t (.pointer (some ⟨w.heap.size,11,none⟩)) (ex_fa rfl (q116_0.e (j:=1) rfl) (faS11 _ _)) fun _ q116_1 => ?_;clear q116_0
   refine q116_1.t (.slice s.na s.N.length s.nc) (ex_ld rfl (q116_1.e (j:=54) rfl) (ldN8 (HSr.cell 11 _ rfl))) fun _ q116_2 => ?_;clear q116_1
   refine q116_2.t _ (ex_move rfl (q116_2.e (j:=7) rfl)) fun _ q116_3 => ?_;clear q116_2
   refine q116_3.t (.pointer (some ⟨q,o + i * 6,none⟩)) (ex_ix rfl (q116_3.e (j:=55) rfl) (q116_3.e (j:=56) rfl) (by rw [hqa];exact ix9An q o s.N.length s.nc i hit _)) fun _ q116_4 => ?_;clear q116_3
   refine q116_4.t (x.val) (ex_ld rfl (q116_4.e (j:=57) rfl) (ldAn9 (fun k u hu => hl i x hxi k u hu))) fun _ q116_5 => ?_;clear q116_4
   refine vw (.pointer (some ⟨wr.heap.size,0,none⟩)) e1 (want_none rfl) (ex_al rfl (by rw [he1];exact alAn9 _)) rfl q116_5.z (by decide) (q116_5.k fun Yj q116_6 => ?_);clear q116_5;refine vs (sets e1 wr.heap.size 0 x.cs) (want_none rfl) (ex_st rfl (q116_6.e (j:=8) rfl) (q116_6.e (j:=58) rfl) (stAn9 HA x)) rfl ?_;have HP:=putAn9 HA x;have UP:=upAn9 e1 wr.heap.size x
   obtain ⟨e2,he2⟩ : ∃ v,v = sets e1 wr.heap.size 0 x.cs:=⟨_,rfl⟩
   rw [← he2] at HP UP ⊢;have hby : Below wr.heap.size wr e2:=hb.trans (UP.below hb.size (fun k hk => by omega));clear he2 he1 HA UP hb hl;have zy:=hby.size;have hqe:=HP.lt;have hz:=q116_6.z;have s1:=q116_6.a 1 rfl;have s2:=q116_6.a 2 rfl;have s6:=q116_6.a 6 rfl;have s7:=q116_6.a 7 rfl;have s8:=q116_6.a 8 rfl;clear q116_6;refine wpList_nil ?_;have xin:=((hI.later hBr).nl x hmem).1.later hby;have xb:=hb2 x hmem
   go_upto_region 18 with fail
   refine wp_region_lit ?_;have q117_0:=(((((Rp.nil hz).cons s1).cons s2).cons s6).cons s7).cons s8;clear hz s1 s2 s6 s7 s8
   refine q117_0.t (.pointer (some ⟨wr.heap.size,5,none⟩)) (ex_fa rfl (q117_0.e (j:=8) rfl) (fb4An _ _)) fun _ q117_1 => ?_;clear q117_0
   refine q117_1.t (.slice x.s.a x.s.D.length x.s.c) (ex_ld rfl (q117_1.e (j:=59) rfl) (ldE8 (HP.cell 5 _ rfl))) fun _ q117_2 => ?_;clear q117_1
   refine vcallP (want_none rfl) (ex_call rfl (by simp only [List.map_toArray,List.map_cons,List.map_nil,(q117_2.e (j:=60) rfl),evc] <;> rfl) rfl) (copyent_any x.s.a _ x.s.c x.s.D e2 xin (by omega)) rfl q117_2.z (by decide) ?_;rintro e e3 ⟨vl,rfl,ol,bl⟩;obtain ⟨al,cl,rfl,_,_⟩:=ol.sl kE;refine ⟨_,rfl,q117_2.k fun Yk q117_3 => ?_⟩;clear q117_2;have HP:=HP.bel bl;have zl:=bl.size;have hbz:=hby.trans (bl.mono zy);clear bl hby
   refine q117_3.t (.pointer (some ⟨wr.heap.size,5,none⟩)) (ex_fa rfl (q117_3.e (j:=8) rfl) (fb4An _ _)) fun _ q117_4 => ?_;clear q117_3
   refine vs (e3.setCell ⟨wr.heap.size,5,none⟩ (.slice al x.s.D.length cl)) (want_none rfl) (ex_st rfl (q117_4.e (j:=62) rfl) (q117_4.e (j:=61) rfl) (stE8 (HP.cell 5 _ rfl) (HP.free 5) _ _ _)) rfl ?_;have HPn:=HP.set (j:=5) (by simp [An.cs]) (.slice al x.s.D.length cl);have US : Upd (fun k => k = wr.heap.size) e3 (e3.setCell ⟨wr.heap.size,5,none⟩ (.slice al x.s.D.length cl)):=(Upd.refl (fun k => k = wr.heap.size) _).setCell (p:=⟨wr.heap.size,5,none⟩) (.inl rfl) _
   obtain ⟨e4,he4⟩ : ∃ v,v = e3.setCell ⟨wr.heap.size,5,none⟩ (.slice al x.s.D.length cl):=⟨_,rfl⟩
   rw [← he4] at HPn US ⊢;clear he4 HP;have HP : BX7 e4 wr.heap.size ({ x with s:=⟨al,cl,x.s.D⟩ } : An).cs:=HPn;clear HPn;have ol:=ol.upd1 US (fun k hk e => by have:=(ol.blk k hk).1;omega);have hbz:=hbz.trans (US.below (by omega) (fun k hk => by omega));have z4:=US.size;clear US;have hz:=q117_4.z;have s1:=q117_4.a 1 rfl;have s2:=q117_4.a 2 rfl;have s6:=q117_4.a 6 rfl;have s7:=q117_4.a 7 rfl;have s8:=q117_4.a 8 rfl;clear q117_4;refine wpList_nil ?_;have oB:=oB.grow hbz;have cB:=cB.bel hbz;have hzz:=hbz.size
   go_upto_region 19 with fail
   refine wp_region_lit ?_;have q118_0:=(((((Rp.nil hz).cons s1).cons s2).cons s6).cons s7).cons s8;clear hz s1 s2 s6 s7 s8
   refine q118_0.t _ (ex_move rfl (q118_0.e (j:=6) rfl)) fun _ q118_1 => ?_;clear q118_0
   refine q118_1.t (An.val ({ x with s:=⟨al,cl,x.s.D⟩ } : An)) (ex_ld rfl (q118_1.e (j:=8) rfl) (ldbAn9 HP)) fun _ q118_2 => ?_;clear q118_1
   obtain ⟨e5,he5⟩ : ∃ v,v = e4.alloc (.cells (yAnA.cs ({ x with s:=⟨al,cl,x.s.D⟩ } : An)).toArray 116):=⟨_,rfl⟩
   have b5 : Below e4.heap.size e4 e5:=by rw [he5];exact (Below.refl _ _).alloc (Nat.le_refl _) _
   have p5 : SlY yAnA e5 (some ⟨e4.heap.size,0,none⟩) 1 1 [({ x with s:=⟨al,cl,x.s.D⟩ } : An)]:=by rw [he5];exact one9 yAnA e4 ({ x with s:=⟨al,cl,x.s.D⟩ } : An)
   have z5:=b5.size
   have hlR : R.length = i:=by rw [cB.1,List.length_take];omega
   obtain ⟨vb2,e6,hr6,oB6,g6,_⟩:=run_appY kAnA e5 34 y10.heap.size _ vb _ _ _ _ p5 (oB.grow b5) (by omega) (by rw [hlR];unfold maxLen;omega) (by rw [hlR];show (i + 1) * 64 ≤ _;omega);have cB6:=(cB.bel b5).row (oB.grow b5) g6;have ol6:=(ol.grow b5).grownZ (oB.grow b5) (by decide) g6;have hb6 : Below y10.heap.size y10 e6:=(oB.grow b5).grown ((hbr.trans (hbz.mono (by omega))).trans (b5.mono (by omega))) g6 (by omega);refine vw (.slice (some ⟨e4.heap.size,0,none⟩) 1 1) e5 (want_none rfl) (ex_bs8 rfl (q118_2.e (j:=64) rfl) (by rw [he5];exact bsAn9 ({ x with s:=⟨al,cl,x.s.D⟩ } : An) _)) rfl q118_2.z (by decide) (q118_2.k fun Yl q118_3 => ?_);clear q118_2;refine vw (vb2) e6 (want_none rfl) (ex_app8 rfl (q118_3.e (j:=63) rfl) (q118_3.e (j:=65) rfl) hr6) rfl q118_3.z (by decide) (q118_3.k fun Ym q118_4 => ?_);clear q118_3;clear hr6 g6 p5 he5
   refine q118_4.t _ (ex_assign rfl (q118_4.e (j:=66) rfl)) fun _ q118_5 => ?_;clear q118_4
   have hz:=q118_5.z;have s1:=q118_5.a 1 rfl;have s2:=q118_5.a 2 rfl;have s6:=q118_5.a 6 rfl;have s7:=q118_5.a 7 rfl;clear q118_5;refine wpList_nil ?_
   go_upto_region 16 with fail
   refine wp_region_lit ?_;have q119_0:=((((Rp.nil hz).cons s1).cons s2).cons s6).cons s7;clear hz s1 s2 s6 s7
   refine q119_0.t _ (ex_move rfl (q119_0.e (j:=7) rfl)) fun _ q119_1 => ?_;clear q119_0
   refine q119_1.t (.int .i64 ((i + 1 : Nat) : Int)) (ex_bin rfl (q119_1.e (j:=52) rfl) rfl (addD8 _ _ _ 1 ((i + 1 : Nat) : Int) (by rw [IntKind.wrap_i64];omega) _)) fun _ q119_2 => ?_;clear q119_1
   refine q119_2.t _ (ex_assign rfl (q119_2.e (j:=53) rfl)) fun _ q119_3 => ?_;clear q119_2
   have hz:=q119_3.z;have s1:=q119_3.a 1 rfl;have s2:=q119_3.a 2 rfl;have s6:=q119_3.a 6 rfl;have s7:=q119_3.a 7 rfl;clear q119_3;refine wpList_nil ?_
   have et : s.N.take (i + 1) = s.N.take i ++ [x]:=by rw [List.take_add_one,hxi];rfl
   exact ⟨_,rfl,by omega,hz,s1,s2,s7,vb2,_,s6,oB6,by rw [et];exact cB6.snoc ⟨⟨rfl,rfl,rfl,rfl,rfl,rfl⟩,ol6.low (by omega),by show x.s.D.length * 48 ≤ _;omega⟩,hb6⟩
  ·have d1 : decide ((i : Int) < (s.N.length : Int)) = false:=decide_eq_false (by omega)
   go_upto_region 15 with fail
   refine wp_region_lit ?_;have q120_0:=((((Rp.nil hz).cons s1).cons s2).cons s6).cons s7;clear hz s1 s2 s6 s7
   refine q120_0.t _ (ex_move rfl (q120_0.e (j:=7) rfl)) fun _ q120_1 => ?_;clear q120_0
   refine q120_1.t (.pointer (some ⟨w.heap.size,11,none⟩)) (ex_fa rfl (q120_1.e (j:=1) rfl) (faS11 _ _)) fun _ q120_2 => ?_;clear q120_1
   refine q120_2.t (.slice s.na s.N.length s.nc) (ex_ld rfl (q120_2.e (j:=48) rfl) (ldN8 (HSr.cell 11 _ rfl))) fun _ q120_3 => ?_;clear q120_2
   refine q120_3.t (.int .i64 (s.N.length : Int)) (ex_lenN8 rfl rfl (q120_3.e (j:=49) rfl)) fun _ q120_4 => ?_;clear q120_3
   refine q120_4.t (.bool false) (ex_bin rfl (q120_4.e (j:=47) rfl) (q120_4.e (j:=50) rfl) (lssD8 _ _ _ _ false d1 _)) fun _ q120_5 => ?_;clear q120_4
   have hz:=q120_5.z;have s1:=q120_5.a 1 rfl;have s2:=q120_5.a 2 rfl;have s6:=q120_5.a 6 rfl;have s51:=q120_5.a 51 rfl;clear q120_5;refine wpList_nil ?_
   go_upto_region 20 with fail
   refine wp_cond_false ((ev s51 rfl).trans rfl) ?_;clear s51 d1
   obtain rfl : i = s.N.length:=by omega
   rw [List.take_length] at cB;obtain ⟨a11,c11,hvb,_,_⟩:=oB.sl kAnA;rw [hvb] at s6 oB;have p11:=Fr8.of_own (B:=w2.heap.size) kAnA oB hzB;have o11:=oB.low hzB;have t11:=cB.low (B':=w2.heap.size) hzB;clear hvb oB cB HIr HSr hBr hit hi
   obtain ⟨x11,hX⟩ : ∃ v,v = wr:=⟨_,rfl⟩
   obtain ⟨L11,hL11⟩ : ∃ v,v = R:=⟨_,rfl⟩
   rw [← hL11] at p11 t11 o11 s6;rw [← hX] at p11 t11 o11 hbr hzr ⊢;clear hX;clear hL11;have HS:=HS.bel hbr;have HZ:=HZ.bel hbr;have hB:=hB.trans (hbr.mono (by omega));have p4:=p4.later hbr;have o4:=o4.grow hbr;have p6:=p6.later hbr;have o6:=o6.grow hbr;have p8:=p8.later hbr;have o8:=o8.grow hbr;have p9:=p9.later hbr;have o9:=o9.grow hbr;have p10:=p10.later hbr;have t10:=t10.bel hbr;have o10:=o10.grow hbr;have hzB:=Nat.le_trans hzB hbr.size;clear hbr
   go_upto_region 20 with fail
   refine wp_region_lit ?_;have q121_0:=(((Rp.nil hz).cons s1).cons s2).cons s6;clear hz s1 s2 s6
   refine q121_0.t _ (ex_move rfl (q121_0.e (j:=6) rfl)) fun _ q121_1 => ?_;clear q121_0
   refine q121_1.t (.pointer (some ⟨w.heap.size,11,none⟩)) (ex_fa rfl (q121_1.e (j:=1) rfl) (faS11 _ _)) fun _ q121_2 => ?_;clear q121_1
   refine vs (x11.setCell ⟨w.heap.size,11,none⟩ (.slice a11 L11.length c11)) (want_none rfl) (ex_st rfl (q121_2.e (j:=68) rfl) (q121_2.e (j:=67) rfl) (stN8 (HS.cell 11 _ rfl) (HS.free 11) _ _ _)) rfl ?_;have US : Upd (fun k => k = w.heap.size) x11 (x11.setCell ⟨w.heap.size,11,none⟩ (.slice a11 L11.length c11)):=(Upd.refl (fun k => k = w.heap.size) _).setCell (p:=⟨w.heap.size,11,none⟩) (.inl rfl) _;have HSn:=HS.set (j:=11) (by simp [Sta.cs]) (.slice a11 L11.length c11)
   obtain ⟨y11,hy11⟩ : ∃ v,v = (x11.setCell ⟨w.heap.size,11,none⟩ (.slice a11 L11.length c11)):=⟨_,rfl⟩
   rw [← hy11] at US HSn ⊢;clear hy11 HS;have HS : SB7 y11 (w.heap.size) { s with la:=a4,lc:=c4,va:=a6,vc:=c6,ka:=a8,kc:=c8,ma:=a9,mc:=c9,ba:=a10,bc:=c10,B:=L10,na:=a11,nc:=c11,N:=L11 }:=HSn;clear HSn;have HZ:=HZ.upd US (by show ¬ w.heap.size + 1 = w.heap.size;omega);have hB:=hB.trans (US.below hB.size (fun k hk => by omega));have p4:=p4.set US (by omega);have o4:=o4.set9 US (by omega);have p6:=p6.set US (by omega);have o6:=o6.set9 US (by omega);have p8:=p8.set US (by omega);have o8:=o8.set9 US (by omega);have p9:=p9.set US (by omega);have o9:=o9.set9 US (by omega);have p10:=p10.set US (by omega);have t10:=t10.set8 US (by omega);have o10:=o10.set9 US (by omega);have p11:=p11.set US (by omega);have t11:=t11.set8 US (by omega);have o11:=o11.set9 US (by omega);have hzB:=Nat.le_trans hzB US.size;clear US;have hz:=q121_2.z;have s1:=q121_2.a 1 rfl;have s2:=q121_2.a 2 rfl;clear q121_2;refine wpList_nil ?_
   go_upto_region 21 with fail
   refine wp_region_lit ?_;have q122_0:=((Rp.nil hz).cons s1).cons s2;clear hz s1 s2
   refine q122_0.t (Sta.val { s with la:=a4,lc:=c4,va:=a6,vc:=c6,ka:=a8,kc:=c8,ma:=a9,mc:=c9,ba:=a10,bc:=c10,B:=L10,na:=a11,nc:=c11,N:=L11 }) (ex_ld rfl (q122_0.e (j:=1) rfl) (SB7.ld HS)) fun _ q122_1 => ?_;clear q122_0
   refine vs (sets y11 (w.heap.size + 1) 0 (Sta.cs { s with la:=a4,lc:=c4,va:=a6,vc:=c6,ka:=a8,kc:=c8,ma:=a9,mc:=c9,ba:=a10,bc:=c10,B:=L10,na:=a11,nc:=c11,N:=L11 })) (want_none rfl) (ex_st rfl (q122_1.e (j:=2) rfl) (q122_1.e (j:=69) rfl) (st12 HZ { s with la:=a4,lc:=c4,va:=a6,vc:=c6,ka:=a8,kc:=c8,ma:=a9,mc:=c9,ba:=a10,bc:=c10,B:=L10,na:=a11,nc:=c11,N:=L11 })) rfl ?_;have HP:=SB7.put HZ { s with la:=a4,lc:=c4,va:=a6,vc:=c6,ka:=a8,kc:=c8,ma:=a9,mc:=c9,ba:=a10,bc:=c10,B:=L10,na:=a11,nc:=c11,N:=L11 };have UP:=upd12 y11 (w.heap.size + 1) { s with la:=a4,lc:=c4,va:=a6,vc:=c6,ka:=a8,kc:=c8,ma:=a9,mc:=c9,ba:=a10,bc:=c10,B:=L10,na:=a11,nc:=c11,N:=L11 }
   obtain ⟨u9,hu9⟩ : ∃ v,v = sets y11 (w.heap.size + 1) 0 (Sta.cs { s with la:=a4,lc:=c4,va:=a6,vc:=c6,ka:=a8,kc:=c8,ma:=a9,mc:=c9,ba:=a10,bc:=c10,B:=L10,na:=a11,nc:=c11,N:=L11 }):=⟨_,rfl⟩
   rw [← hu9] at HP UP ⊢;have hB9:=hide (hB.trans (UP.below hB.size (fun k hk => by omega)));have p4:=p4.set UP (by omega);have o4:=o4.set9 UP (by omega);have p6:=p6.set UP (by omega);have o6:=o6.set9 UP (by omega);have p8:=p8.set UP (by omega);have o8:=o8.set9 UP (by omega);have p9:=p9.set UP (by omega);have o9:=o9.set9 UP (by omega);have p10:=p10.set UP (by omega);have t10:=t10.set8 UP (by omega);have o10:=o10.set9 UP (by omega);have p11:=p11.set UP (by omega);have t11:=t11.set8 UP (by omega);have o11:=o11.set9 UP (by omega);clear hu9 UP;have hz:=q122_1.z;have s2:=q122_1.a 2 rfl;clear q122_1;refine wpList_nil ?_
   go_wp2
   refine bodyPost_ret (results_sta rfl (getD_of s2) HP) rfl ?_
   exact ⟨_,rfl,⟨rfl,rfl,rfl,rfl,rfl,rfl,rfl,rfl,rfl,rfl,t10.low (by omega),t11.low (by omega),⟨p4.sl,p6.sl,p8.sl,p9.sl,p10.sl,p11.sl,t10.in8,t11.in8⟩⟩,Sta.Lo.low ⟨p4.lo,p6.lo,p8.lo,p9.lo,p10.lo,p11.lo⟩ (by omega),⟨o4.low (by omega),o6.low (by omega),o8.low (by omega),o9.low (by omega),o10.low (by omega),o11.low (by omega)⟩,hB9.out⟩
theorem copystate9 (s : Sta) (w : World) (hI : s.In w) (hF : s.Fit) (hb1 : ∀ x ∈ s.B,x.s.D.length * 48 ≤ 140737488351232) (hb2 : ∀ x ∈ s.N,x.s.D.length * 48 ≤ 140737488351232) : Calls Tryz.prog 44 #[s.val] w fun e w' => ∃ t : Sta,e = .returned t.val∧t.Cp w.heap.size s w'∧t.Lo w.heap.size∧Below w.heap.size w w' :=
 (copystate9o s w hI hF hb1 hb2).mono fun e w' ⟨t,h1,h2,h3,_,h4⟩ => ⟨t,h1,h2,h3,h4⟩
end Go.Proofs.YtgncpcfncojgoaaGreatDoor
