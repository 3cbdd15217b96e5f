import Derived.Test.YtpcgnjpodnebpaaGreatDoorG13
set_option maxRecDepth 100000
set_option linter.unusedVariables false
set_option linter.unusedSimpArgs false
set_option maxHeartbeats 8000000
namespace Go.Proofs.YtpcgnjpodnebpaaGreatDoor
open Go.RowKit Go.Maps Go.Shelf
open Classical
def Bl.Cps (B : Nat) (w : World) (L R : List Bl) : Prop:=R.length = L.length∧∀ (i : Nat) (x y : Bl),L[i]? = some x → R[i]? = some y → Bl.Like x y∧OwnY yE B w (.slice y.s.a y.s.D.length y.s.c) y.s.D∧y.s.D.length * 48 ≤ 281474976710656
theorem Bl.Cps.bel {B : Nat} {w w' : World} {L R : List Bl} (h : Bl.Cps B w L R) (hb : Below w.heap.size w w') : Bl.Cps B w' L R:=⟨h.1,fun i x y hx hy => ⟨(h.2 i x y hx hy).1,(h.2 i x y hx hy).2.1.grow hb,(h.2 i x y hx hy).2.2⟩⟩
theorem Bl.Cps.low {B B' : Nat} {w : World} {L R : List Bl} (h : Bl.Cps B w L R) (hB : B' ≤ B) : Bl.Cps B' w L R:=⟨h.1,fun i x y hx hy => ⟨(h.2 i x y hx hy).1,(h.2 i x y hx hy).2.1.low hB,(h.2 i x y hx hy).2.2⟩⟩
theorem Bl.Cps.set8 {B q : Nat} {w w' : World} {L R : List Bl} (h : Bl.Cps B w L R) (u : Upd (fun k => k = q) w w') (hq : q < B) : Bl.Cps B w' L R:=⟨h.1,fun i x y hx hy => ⟨(h.2 i x y hx hy).1,(h.2 i x y hx hy).2.1.upd1 u (fun k hk e => by have:=((h.2 i x y hx hy).2.1.blk k hk).1;omega),(h.2 i x y hx hy).2.2⟩⟩
theorem Bl.Cps.row {B B' : Nat} {w w' : World} {L R : List Bl} {v : Value} {Z : List Bl} (h : Bl.Cps B w L R) (ho : OwnY yBlA B' w v Z) (hg : w.grownBy w' v.ownBlock) : Bl.Cps B w' L R:=⟨h.1,fun i x y hx hy => ⟨(h.2 i x y hx hy).1,(h.2 i x y hx hy).2.1.grownZ ho (by decide) hg,(h.2 i x y hx hy).2.2⟩⟩
theorem Bl.Cps.in8 {B : Nat} {w : World} {L R : List Bl} (h : Bl.Cps B w L R) : ∀ y ∈ R,y.In w:=fun y hy => by
 obtain ⟨i,hi,rfl⟩:=List.mem_iff_getElem.1 hy
 have hl : i < L.length:=by rw [← h.1];exact hi
 obtain ⟨_,o,hb⟩:=h.2 i _ _ (List.getElem?_eq_getElem hl) (List.getElem?_eq_getElem hi)
 exact ⟨o.sl' kE,hb⟩
theorem Bl.Cps.nil (B : Nat) (w : World) : Bl.Cps B w [] []:=⟨rfl,fun i x y hx => by simp at hx⟩
theorem Bl.Cps.snoc {B : Nat} {w : World} {L R : List Bl} {x y : Bl} (h : Bl.Cps B w L R) (hy : Bl.Like x y∧OwnY yE B w (.slice y.s.a y.s.D.length y.s.c) y.s.D∧y.s.D.length * 48 ≤ 281474976710656) : Bl.Cps B w (L ++ [x]) (R ++ [y]):=by
 refine ⟨by simp [h.1],fun i a b ha hb => ?_⟩
 by_cases hi : i < L.length
 ·rw [List.getElem?_append_left hi] at ha
  rw [List.getElem?_append_left (by rw [h.1];exact hi)] at hb
  exact h.2 i a b ha hb
 ·rw [List.getElem?_append_right (by omega)] at ha
  rw [List.getElem?_append_right (by rw [h.1];omega),h.1] at hb
  have h0 : i - L.length = 0:=by
   have:=(List.getElem?_eq_some_iff.1 ha).1
   simp at this
   omega
  rw [h0] at ha hb
  simp at ha hb
  subst ha hb
  exact hy
theorem bsBl9 (x : Bl) (w : World) : (Instr.buildSlice 30 1 #[(0,x.val)]).run Tryz.prog w = .ok (.slice (some ⟨w.heap.size,0,none⟩) 1 1) (w.alloc (.cells (yBlA.cs x).toArray 75)):=by
 unfold Bl.val
 go_simp
 first | done | rfl
theorem ldbBl9 {w : World} {q : Nat} {x : Bl} (h : BX7 w q x.cs) : (Instr.loadAt 75 (.pointer (some ⟨q,0,none⟩))).run Tryz.prog w = .ok x.val w:=ldBl9 (o:=0) (fun k u hu => by rw [Nat.zero_add];exact h.cell k u hu)
def An.Cps (B : Nat) (w : World) (L R : List An) : Prop:=R.length = L.length∧∀ (i : Nat) (x y : An),L[i]? = some x → R[i]? = some y → An.Like x y∧OwnY yE B w (.slice y.s.a y.s.D.length y.s.c) y.s.D∧y.s.D.length * 48 ≤ 281474976710656
theorem An.Cps.bel {B : Nat} {w w' : World} {L R : List An} (h : An.Cps B w L R) (hb : Below w.heap.size w w') : An.Cps B w' L R:=⟨h.1,fun i x y hx hy => ⟨(h.2 i x y hx hy).1,(h.2 i x y hx hy).2.1.grow hb,(h.2 i x y hx hy).2.2⟩⟩
theorem An.Cps.low {B B' : Nat} {w : World} {L R : List An} (h : An.Cps B w L R) (hB : B' ≤ B) : An.Cps B' w L R:=⟨h.1,fun i x y hx hy => ⟨(h.2 i x y hx hy).1,(h.2 i x y hx hy).2.1.low hB,(h.2 i x y hx hy).2.2⟩⟩
theorem An.Cps.set8 {B q : Nat} {w w' : World} {L R : List An} (h : An.Cps B w L R) (u : Upd (fun k => k = q) w w') (hq : q < B) : An.Cps B w' L R:=⟨h.1,fun i x y hx hy => ⟨(h.2 i x y hx hy).1,(h.2 i x y hx hy).2.1.upd1 u (fun k hk e => by have:=((h.2 i x y hx hy).2.1.blk k hk).1;omega),(h.2 i x y hx hy).2.2⟩⟩
theorem An.Cps.row {B B' : Nat} {w w' : World} {L R : List An} {v : Value} {Z : List An} (h : An.Cps B w L R) (ho : OwnY yAnA B' w v Z) (hg : w.grownBy w' v.ownBlock) : An.Cps B w' L R:=⟨h.1,fun i x y hx hy => ⟨(h.2 i x y hx hy).1,(h.2 i x y hx hy).2.1.grownZ ho (by decide) hg,(h.2 i x y hx hy).2.2⟩⟩
theorem An.Cps.in8 {B : Nat} {w : World} {L R : List An} (h : An.Cps B w L R) : ∀ y ∈ R,y.In w:=fun y hy => by
 obtain ⟨i,hi,rfl⟩:=List.mem_iff_getElem.1 hy
 have hl : i < L.length:=by rw [← h.1];exact hi
 obtain ⟨_,o,hb⟩:=h.2 i _ _ (List.getElem?_eq_getElem hl) (List.getElem?_eq_getElem hi)
 exact ⟨o.sl' kE,hb⟩
theorem An.Cps.nil (B : Nat) (w : World) : An.Cps B w [] []:=⟨rfl,fun i x y hx => by simp at hx⟩
theorem An.Cps.snoc {B : Nat} {w : World} {L R : List An} {x y : An} (h : An.Cps B w L R) (hy : An.Like x y∧OwnY yE B w (.slice y.s.a y.s.D.length y.s.c) y.s.D∧y.s.D.length * 48 ≤ 281474976710656) : An.Cps B w (L ++ [x]) (R ++ [y]):=by
 refine ⟨by simp [h.1],fun i a b ha hb => ?_⟩
 by_cases hi : i < L.length
 ·rw [List.getElem?_append_left hi] at ha
  rw [List.getElem?_append_left (by rw [h.1];exact hi)] at hb
  exact h.2 i a b ha hb
 ·rw [List.getElem?_append_right (by omega)] at ha
  rw [List.getElem?_append_right (by rw [h.1];omega),h.1] at hb
  have h0 : i - L.length = 0:=by
   have:=(List.getElem?_eq_some_iff.1 ha).1
   simp at this
   omega
  rw [h0] at ha hb
  simp at ha hb
  subst ha hb
  exact hy
theorem bsAn9 (x : An) (w : World) : (Instr.buildSlice 31 1 #[(0,x.val)]).run Tryz.prog w = .ok (.slice (some ⟨w.heap.size,0,none⟩) 1 1) (w.alloc (.cells (yAnA.cs x).toArray 77)):=by
 unfold An.val
 go_simp
 first | done | rfl
theorem ldbAn9 {w : World} {q : Nat} {x : An} (h : BX7 w q x.cs) : (Instr.loadAt 77 (.pointer (some ⟨q,0,none⟩))).run Tryz.prog w = .ok x.val w:=ldAn9 (o:=0) (fun k u hu => by rw [Nat.zero_add];exact h.cell k u hu)
structure Sta.Cp (t : Sta) (B : Nat) (s : Sta) (w : World) : Prop where
 self : t.self = s.self
 st : t.st = s.st
 view : t.view = s.view
 last : t.last = s.last
 commit : t.commit = s.commit
 idle : t.idle = s.idle
 l : t.L = s.L
 v : t.V = s.V
 a : t.A = s.A
 m : t.M = s.M
 b : Bl.Cps B w s.B t.B
 n : An.Cps B w s.N t.N
 inn : t.In w
theorem OwnY.set9 {α : Type} {Y : Lay α} {B q : Nat} {w w' : World} {v : Value} {l : List α} (h : OwnY Y B w v l) (u : Upd (fun k => k = q) w w') (hq : q < B) : OwnY Y B w' v l:=h.upd1 u (fun k hk e => by have:=(h.blk k hk).1;omega)
structure Sta.Ow (t : Sta) (B : Nat) (w : World) : Prop where
 l : OwnY yE B w (.slice t.la t.L.length t.lc) t.L
 v : OwnY yD B w (.slice t.va t.V.length t.vc) t.V
 a : OwnY yAkA B w (.slice t.ka t.A.length t.kc) t.A
 m : OwnY yMkA B w (.slice t.ma t.M.length t.mc) t.M
 b : OwnY yBlA B w (.slice t.ba t.B.length t.bc) t.B
 n : OwnY yAnA B w (.slice t.na t.N.length t.nc) t.N
theorem copystate9o (s : Sta) (w : World) (hI : s.In w) (hF : s.Fit) (hb1 : ∀ x ∈ s.B,x.s.D.length * 48 ≤ 140737488351232) (hb2 : ∀ x ∈ s.N,x.s.D.length * 48 ≤ 140737488351232) : Calls Tryz.prog 8 #[s.val] w fun e w' => ∃ t : Sta,e = .returned t.val∧t.Cp w.heap.size s w'∧t.Lo w.heap.size∧t.Ow w.heap.size w'∧Below w.heap.size w w':=by
 go_enter Tryz.func8,Tryz.ntmps8
 go_upto_region 0 with fail
 refine WL ?_;refine vl_gen (fun T => T.size = 70∧T[0]? = some (gw true (s.val))) ⟨rfl,rfl⟩ (fun Z0 ⟨hz,s0⟩ => ?_)
 obtain ⟨w1,hw1⟩ : ∃ y,y = w.alloc (.cells s.cs.toArray 33):=⟨_,rfl⟩
 have hb : Below w.heap.size w w1:=by rw [hw1];exact BR.alloc LR _
 have hs1 : w1.heap.size = w.heap.size + 1:=by rw [hw1];simp
 have HS : SB7 w1 (w.heap.size) s:=by rw [hw1];exact BX7.new _ _ _
 refine vw (.pointer (some ⟨w.heap.size,0,none⟩)) w1 WN (ex_box8 rfl (ev s0 rfl) (by rw [hw1];exact bxS7 _ _)) rfl hz (by decide) (fun Z1 zz kk s1x => ?_);clear kk hz s0 hw1;have hz:=zz;have s1:=s1x;clear zz s1x;have hB:=hb;clear hb;have hv0 : Below w1.heap.size w1 w1:=BR
 obtain ⟨w2,hw2⟩ : ∃ y,y = w1.alloc (.cells zS8.cs.toArray 33):=⟨_,rfl⟩
 have hb : Below w1.heap.size w1 w2:=by rw [hw2];exact BR.alloc LR _
 have HZ : SB7 w2 (w.heap.size + 1) zS8:=by rw [hw2,← hs1];exact BX7.new _ _ _
 have hz2 : w2.heap.size = w.heap.size + 2:=by rw [hw2];simp;omega
 have Ya:=(Rp.nil hz).cons s1;clear hz s1;refine vw (.pointer (some ⟨w.heap.size + 1,0,none⟩)) w2 WN (ex_al rfl (by rw [hw2,← hs1];exact al12 _)) rfl Ya.z (by decide) (Ya.k fun Yb Yc => ?_);clear Ya;have hz:=Yc.z;have s1:=Yc.a 1 rfl;have s2:=Yc.a 2 rfl;clear Yc;refine WE ?_;have hB2 : Below w.heap.size w w2:=hB.trans (hb.mono (by omega));have HS:=HS.bel hb;clear hb hw2 hv0 hB;have hB:=hB2;clear hB2;have f1:=hF.ll;have f2:=hF.al;have f3:=hF.ml;have f4:=hF.bl;have f5:=hF.nl;have f6:=hF.vl;have hzB : w2.heap.size ≤ w2.heap.size:=LR
 go_upto_region 1 with fail
 refine WL ?_;have Yd:=((Rp.nil hz).cons s1).cons s2;clear hz s1 s2
 refine Yd.t _ (ex_fa rfl (Yd.f 1) (faS4 _ _)) fun _ Ye => ?_;clear Yd
 refine Ye.t _ (ex_ld rfl (Ye.f 9) (ldE8 (HS.cell 4 _ rfl))) fun _ Yf => ?_;clear Ye
 refine Yf.c (ex_call rfl (by simp only [LA,LB,LC,(Yf.f 10),evc] <;> rfl) rfl) (copyent_any s.la _ s.lc s.L w2 (hI.later hB).l (by omega)) ?_;rintro e x4 ⟨v4,rfl,o4,b4⟩;obtain ⟨a4,c4,rfl,_,_⟩:=o4.sl kE;refine ⟨_,rfl,Yf.k fun Yg Yh => ?_⟩;clear Yf;have p4:=Fr8.of_own (B:=w2.heap.size) kE o4 hzB;have o4:=o4.low hzB;have HS:=HS.bel b4;have HZ:=HZ.bel b4;have hB:=hB.trans (b4.mono (by omega));have hzB:=Nat.le_trans hzB b4.size;clear b4
 refine Yh.t _ (ex_fa rfl (Yh.f 1) (faS4 _ _)) fun _ Yi => ?_;clear Yh
 refine vs (x4.setCell ⟨w.heap.size,4,none⟩ (.slice a4 s.L.length c4)) WN (ex_st rfl (Yi.f 12) (Yi.f 11) (stE8 (HS.cell 4 _ rfl) (HS.free 4) _ _ _)) rfl ?_;have US : Upd (fun k => k = w.heap.size) x4 (x4.setCell ⟨w.heap.size,4,none⟩ (.slice a4 s.L.length c4)):=(Upd.refl (fun k => k = w.heap.size) _).setCell (p:=⟨w.heap.size,4,none⟩) (.inl rfl) _;have HSn:=HS.set (j:=4) (by simp [Sta.cs]) (.slice a4 s.L.length c4)
 obtain ⟨y4,hy4⟩ : ∃ v,v = (x4.setCell ⟨w.heap.size,4,none⟩ (.slice a4 s.L.length c4)):=⟨_,rfl⟩
 rw [← hy4] at US HSn ⊢;clear hy4 HS;have HS : SB7 y4 (w.heap.size) { s with la:=a4,lc:=c4 }:=HSn;clear HSn;have HZ:=HZ.upd US (by show ¬ w.heap.size + 1 = w.heap.size;omega);have hB:=hB.trans (US.below hB.size (fun k hk => by omega));have p4:=p4.set US (by omega);have o4:=o4.set9 US (by omega);have hzB:=Nat.le_trans hzB US.size;clear US;have hz:=Yi.z;have s1:=Yi.a 1 rfl;have s2:=Yi.a 2 rfl;clear Yi;refine WE ?_
 go_upto_region 2 with fail
 refine WL ?_;have Yj:=((Rp.nil hz).cons s1).cons s2;clear hz s1 s2
 refine Yj.t _ (ex_fa rfl (Yj.f 1) (faS6 _ _)) fun _ Yk => ?_;clear Yj
 refine Yk.t _ (ex_ld rfl (Yk.f 13) (ldV8 (HS.cell 6 _ rfl))) fun _ Yl => ?_;clear Yk
 refine Yl.c (ex_call rfl (by simp only [LA,LB,LC,(Yl.f 14),evc] <;> rfl) rfl) (copyvecY s.va _ s.vc s.V y4 (hI.later hB).v (by omega)) ?_;rintro e x6 ⟨v6,rfl,o6,b6⟩;obtain ⟨a6,c6,rfl,_,_⟩:=o6.sl kD;refine ⟨_,rfl,Yl.k fun Ym Yn => ?_⟩;clear Yl;have p6:=Fr8.of_own (B:=w2.heap.size) kD o6 hzB;have o6:=o6.low hzB;have HS:=HS.bel b6;have HZ:=HZ.bel b6;have hB:=hB.trans (b6.mono (by omega));have p4:=p4.later b6;have o4:=o4.grow b6;have hzB:=Nat.le_trans hzB b6.size;clear b6
 refine Yn.t _ (ex_fa rfl (Yn.f 1) (faS6 _ _)) fun _ Yo => ?_;clear Yn
 refine vs (x6.setCell ⟨w.heap.size,6,none⟩ (.slice a6 s.V.length c6)) WN (ex_st rfl (Yo.f 16) (Yo.f 15) (stV8 (HS.cell 6 _ rfl) (HS.free 6) _ _ _)) rfl ?_;have US : Upd (fun k => k = w.heap.size) x6 (x6.setCell ⟨w.heap.size,6,none⟩ (.slice a6 s.V.length c6)):=(Upd.refl (fun k => k = w.heap.size) _).setCell (p:=⟨w.heap.size,6,none⟩) (.inl rfl) _;have HSn:=HS.set (j:=6) (by simp [Sta.cs]) (.slice a6 s.V.length c6)
 obtain ⟨y6,hy6⟩ : ∃ v,v = (x6.setCell ⟨w.heap.size,6,none⟩ (.slice a6 s.V.length c6)):=⟨_,rfl⟩
 rw [← hy6] at US HSn ⊢;clear hy6 HS;have HS : SB7 y6 (w.heap.size) { s with la:=a4,lc:=c4,va:=a6,vc:=c6 }:=HSn;clear HSn;have HZ:=HZ.upd US (by show ¬ w.heap.size + 1 = w.heap.size;omega);have hB:=hB.trans (US.below hB.size (fun k hk => by omega));have p4:=p4.set US (by omega);have o4:=o4.set9 US (by omega);have p6:=p6.set US (by omega);have o6:=o6.set9 US (by omega);have hzB:=Nat.le_trans hzB US.size;clear US;have hz:=Yo.z;have s1:=Yo.a 1 rfl;have s2:=Yo.a 2 rfl;clear Yo;refine WE ?_
 go_upto_region 3 with fail
 refine WL ?_;have Yp:=((Rp.nil hz).cons s1).cons s2;clear hz s1 s2
 refine Yp.t _ (ex_fa rfl (Yp.f 1) (faS8 _ _)) fun _ Yq => ?_;clear Yp
 refine Yq.t _ (ex_ld rfl (Yq.f 17) (ldK8 (HS.cell 8 _ rfl))) fun _ Yr => ?_;clear Yq
 obtain ⟨v8,x8,hr8,o8,g8,_⟩:=run_appY kAkA y6 28 y6.heap.size [] (.slice none 0 0) _ _ _ _ (hI.later hB).a (OwnY.nil _ _ _) LR (by unfold maxLen;simp;omega) (by show (0 + s.A.length) * 32 ≤ _;omega);have b8 : Below y6.heap.size y6 x8:=(OwnY.nil yAkA y6.heap.size y6).grown BR g8 LR;rw [List.nil_append] at o8;obtain ⟨a8,c8,rfl,_,_⟩:=o8.sl kAkA;have p8:=Fr8.of_own (B:=w2.heap.size) kAkA o8 hzB;have o8:=o8.low hzB;refine vw (.slice a8 s.A.length c8) x8 WN (ex_app8 rfl rfl (Yr.f 18) hr8) rfl Yr.z (by decide) (Yr.k fun Ys Yt => ?_);clear Yr;clear hr8 g8;have HS:=HS.bel b8;have HZ:=HZ.bel b8;have hB:=hB.trans (b8.mono (by omega));have p4:=p4.later b8;have o4:=o4.grow b8;have p6:=p6.later b8;have o6:=o6.grow b8;have hzB:=Nat.le_trans hzB b8.size;clear b8
 refine Yt.t _ (ex_fa rfl (Yt.f 1) (faS8 _ _)) fun _ Yu => ?_;clear Yt
 refine vs (x8.setCell ⟨w.heap.size,8,none⟩ (.slice a8 s.A.length c8)) WN (ex_st rfl (Yu.f 20) (Yu.f 19) (stK8 (HS.cell 8 _ rfl) (HS.free 8) _ _ _)) rfl ?_;have US : Upd (fun k => k = w.heap.size) x8 (x8.setCell ⟨w.heap.size,8,none⟩ (.slice a8 s.A.length c8)):=(Upd.refl (fun k => k = w.heap.size) _).setCell (p:=⟨w.heap.size,8,none⟩) (.inl rfl) _;have HSn:=HS.set (j:=8) (by simp [Sta.cs]) (.slice a8 s.A.length c8)
 obtain ⟨y8,hy8⟩ : ∃ v,v = (x8.setCell ⟨w.heap.size,8,none⟩ (.slice a8 s.A.length c8)):=⟨_,rfl⟩
 rw [← hy8] at US HSn ⊢;clear hy8 HS;have HS : SB7 y8 (w.heap.size) { s with la:=a4,lc:=c4,va:=a6,vc:=c6,ka:=a8,kc:=c8 }:=HSn;clear HSn;have HZ:=HZ.upd US (by show ¬ w.heap.size + 1 = w.heap.size;omega);have hB:=hB.trans (US.below hB.size (fun k hk => by omega));have p4:=p4.set US (by omega);have o4:=o4.set9 US (by omega);have p6:=p6.set US (by omega);have o6:=o6.set9 US (by omega);have p8:=p8.set US (by omega);have o8:=o8.set9 US (by omega);have hzB:=Nat.le_trans hzB US.size;clear US;have hz:=Yu.z;have s1:=Yu.a 1 rfl;have s2:=Yu.a 2 rfl;clear Yu;refine WE ?_
 go_upto_region 4 with fail
 refine WL ?_;have Yv:=((Rp.nil hz).cons s1).cons s2;clear hz s1 s2
 refine Yv.t _ (ex_fa rfl (Yv.f 1) (faS9 _ _)) fun _ Yw => ?_;clear Yv
 refine Yw.t _ (ex_ld rfl (Yw.f 21) (ldM8 (HS.cell 9 _ rfl))) fun _ Yx => ?_;clear Yw
 obtain ⟨v9,x9,hr9,o9,g9,_⟩:=run_appY kMkA y8 29 y8.heap.size [] (.slice none 0 0) _ _ _ _ (hI.later hB).m (OwnY.nil _ _ _) LR (by unfold maxLen;simp;omega) (by show (0 + s.M.length) * 24 ≤ _;omega);have b9 : Below y8.heap.size y8 x9:=(OwnY.nil yMkA y8.heap.size y8).grown BR g9 LR;rw [List.nil_append] at o9;obtain ⟨a9,c9,rfl,_,_⟩:=o9.sl kMkA;have p9:=Fr8.of_own (B:=w2.heap.size) kMkA o9 hzB;have o9:=o9.low hzB;refine vw (.slice a9 s.M.length c9) x9 WN (ex_app8 rfl rfl (Yx.f 22) hr9) rfl Yx.z (by decide) (Yx.k fun Yy Yz => ?_);clear Yx;clear hr9 g9;have HS:=HS.bel b9;have HZ:=HZ.bel b9;have hB:=hB.trans (b9.mono (by omega));have p4:=p4.later b9;have o4:=o4.grow b9;have p6:=p6.later b9;have o6:=o6.grow b9;have p8:=p8.later b9;have o8:=o8.grow b9;have hzB:=Nat.le_trans hzB b9.size;clear b9
 refine Yz.t _ (ex_fa rfl (Yz.f 1) (faS9 _ _)) fun _ Y0 => ?_;clear Yz
 refine vs (x9.setCell ⟨w.heap.size,9,none⟩ (.slice a9 s.M.length c9)) WN (ex_st rfl (Y0.f 24) (Y0.f 23) (stM8 (HS.cell 9 _ rfl) (HS.free 9) _ _ _)) rfl ?_;have US : Upd (fun k => k = w.heap.size) x9 (x9.setCell ⟨w.heap.size,9,none⟩ (.slice a9 s.M.length c9)):=(Upd.refl (fun k => k = w.heap.size) _).setCell (p:=⟨w.heap.size,9,none⟩) (.inl rfl) _;have HSn:=HS.set (j:=9) (by simp [Sta.cs]) (.slice a9 s.M.length c9)
 obtain ⟨y9,hy9⟩ : ∃ v,v = (x9.setCell ⟨w.heap.size,9,none⟩ (.slice a9 s.M.length c9)):=⟨_,rfl⟩
 rw [← hy9] at US HSn ⊢;clear hy9 HS;have HS : SB7 y9 (w.heap.size) { s with la:=a4,lc:=c4,va:=a6,vc:=c6,ka:=a8,kc:=c8,ma:=a9,mc:=c9 }:=HSn;clear HSn;have HZ:=HZ.upd US (by show ¬ w.heap.size + 1 = w.heap.size;omega);have hB:=hB.trans (US.below hB.size (fun k hk => by omega));have p4:=p4.set US (by omega);have o4:=o4.set9 US (by omega);have p6:=p6.set US (by omega);have o6:=o6.set9 US (by omega);have p8:=p8.set US (by omega);have o8:=o8.set9 US (by omega);have p9:=p9.set US (by omega);have o9:=o9.set9 US (by omega);have hzB:=Nat.le_trans hzB US.size;clear US;have hz:=Y0.z;have s1:=Y0.a 1 rfl;have s2:=Y0.a 2 rfl;clear Y0;refine WE ?_
 go_upto_region 5 with fail
 refine WL ?_;have Y1:=((Rp.nil hz).cons s1).cons s2;clear hz s1 s2
 refine Y1.t (.slice none 0 0) (ex_assign rfl rfl) fun _ Y2 => ?_;clear Y1
 have hz:=Y2.z;have s1:=Y2.a 1 rfl;have s2:=Y2.a 2 rfl;have s3:=Y2.a 3 rfl;clear Y2;refine WE ?_
 go_upto_region 6 with fail
 refine WL ?_;have Y3:=(((Rp.nil hz).cons s1).cons s2).cons s3;clear hz s1 s2 s3
 refine Y3.t (.int .i64 0) (ex_assign rfl rfl) fun _ Y4 => ?_;clear Y3
 have hz:=Y4.z;have s1:=Y4.a 1 rfl;have s2:=Y4.a 2 rfl;have s3:=Y4.a 3 rfl;have s4:=Y4.a 4 rfl;clear Y4;refine WE ?_;have hsv : _ = some (gw true (.int .i64 ((0 : Nat) : Int))):=s4
 go_upto_region 7 with fail
 refine v_loop 4 s.B.length (fun i T wr => T.size = 70∧T[1]? = some (gw true (.pointer (some ⟨w.heap.size,0,none⟩)))∧T[2]? = some (gw true (.pointer (some ⟨w.heap.size + 1,0,none⟩)))∧T[4]? = some (gw true (.int .i64 (i : Int)))∧Hid (∃ vb R,T[3]? = some (gw true vb)∧OwnY yBlA y9.heap.size wr vb R∧Bl.Cps y9.heap.size wr (s.B.take i) R∧Below y9.heap.size y9 wr)) (fun i T w h => h.2.2.2.1) ⟨hz,s1,s2,hsv,_,_,s3,OwnY.nil _ _ _,Bl.Cps.nil _ _,BR⟩ ?_;clear hz s1 s2 s4 s3 hsv;intro i R10 wr hi hh;obtain ⟨hz,s1,s2,s4,HJ⟩:=hh;obtain ⟨vb,R,s3,oB,cB,hbr⟩:=HJ.out;clear HJ;have hzr:=hbr.size;have hBr:=hB.trans (hbr.mono (by omega));have HSr:=HS.bel hbr;have HIr:=(hI.later hBr).b
 by_cases hit : i < s.B.length
 ·have d1 : decide ((i : Int) < (s.B.length : Int)) = true:=decide_eq_true (by omega)
  go_upto_region 7 with fail
  refine WL ?_;have Y5:=((((Rp.nil hz).cons s1).cons s2).cons s3).cons s4;clear hz s1 s2 s3 s4
  refine Y5.t _ (ex_move rfl (Y5.f 4)) fun _ Y6 => ?_;clear Y5
  refine Y6.t _ (ex_fa rfl (Y6.f 1) (faS10 _ _)) fun _ Y7 => ?_;clear Y6
  refine Y7.t _ (ex_ld rfl (Y7.f 26) (ldB8 (HSr.cell 10 _ rfl))) fun _ Y8 => ?_;clear Y7
  refine Y8.t _ (ex_lenB8 rfl rfl (Y8.f 27)) fun _ Y9 => ?_;clear Y8
  refine Y9.t (.bool true) (ex_bin rfl (Y9.f 25) (Y9.f 28) (lssD8 _ _ _ _ true d1 _)) fun _ Yba => ?_;clear Y9
  have hz:=Yba.z;have s1:=Yba.a 1 rfl;have s2:=Yba.a 2 rfl;have s3:=Yba.a 3 rfl;have s4:=Yba.a 4 rfl;have s29:=Yba.a 29 rfl;clear Yba;refine WE ?_
  go_upto_region 9 with fail
  refine wp_cond_true ((ev s29 rfl).trans rfl) ?_;clear s29 d1
  obtain ⟨x,hxi⟩ : ∃ x,s.B[i]? = some x:=⟨_,List.getElem?_eq_getElem hit⟩
  have hmem:=List.mem_of_getElem? hxi;obtain ⟨q,o,hqa,hq,hl⟩:=HIr.place (by intro e;rw [e] at hit;simp at hit)
  obtain ⟨e1,he1⟩ : ∃ y,y = wr.alloc (.cells zBl9.cs.toArray 75):=⟨_,rfl⟩
  have hb : Below wr.heap.size wr e1:=by rw [he1];exact BR.alloc LR _
  have HA : BX7 e1 wr.heap.size zBl9.cs:=by rw [he1];exact BX7.new _ _ _
  go_upto_region 9 with fail
  refine WL ?_;have Ybb:=((((Rp.nil hz).cons s1).cons s2).cons s3).cons s4;clear hz s1 s2 s3 s4
  refine Ybb.t _ (ex_fa rfl (Ybb.f 1) (faS10 _ _)) fun _ Ybc => ?_;clear Ybb
  refine Ybc.t _ (ex_ld rfl (Ybc.f 32) (ldB8 (HSr.cell 10 _ rfl))) fun _ Ybd => ?_;clear Ybc
  refine Ybd.t _ (ex_move rfl (Ybd.f 4)) fun _ Ybe => ?_;clear Ybd
  refine Ybe.t (.pointer (some ⟨q,o + i * 6,none⟩)) (ex_ix rfl (Ybe.f 33) (Ybe.f 34) (by rw [hqa];exact ix9Bl q o s.B.length s.bc i hit _)) fun _ Ybf => ?_;clear Ybe
  refine Ybf.t _ (ex_ld rfl (Ybf.f 35) (ldBl9 (fun k u hu => hl i x hxi k u hu))) fun _ Ybg => ?_;clear Ybf
  refine vw (.pointer (some ⟨wr.heap.size,0,none⟩)) e1 WN (ex_al rfl (by rw [he1];exact alBl9 _)) rfl Ybg.z (by decide) (Ybg.k fun Ybh Ybi => ?_);clear Ybg;refine vs (sets e1 wr.heap.size 0 x.cs) WN (ex_st rfl (Ybi.f 5) (Ybi.f 36) (stBl9 HA x)) rfl ?_;have HP:=putBl9 HA x;have UP:=upBl9 e1 wr.heap.size x
  obtain ⟨e2,he2⟩ : ∃ v,v = sets e1 wr.heap.size 0 x.cs:=⟨_,rfl⟩
  rw [← he2] at HP UP ⊢;have hby : Below wr.heap.size wr e2:=hb.trans (UP.below hb.size (fun k hk => by omega));clear he2 he1 HA UP hb hl;have zy:=hby.size;have hqe:=HP.lt;have hz:=Ybi.z;have s1:=Ybi.a 1 rfl;have s2:=Ybi.a 2 rfl;have s3:=Ybi.a 3 rfl;have s4:=Ybi.a 4 rfl;have s5:=Ybi.a 5 rfl;clear Ybi;refine WE ?_;have xin:=((hI.later hBr).bl x hmem).1.later hby;have xb:=hb1 x hmem
  go_upto_region 10 with fail
  refine WL ?_;have Ybj:=(((((Rp.nil hz).cons s1).cons s2).cons s3).cons s4).cons s5;clear hz s1 s2 s3 s4 s5
  refine Ybj.t _ (ex_fa rfl (Ybj.f 5) (fb4Bl _ _)) fun _ Ybk => ?_;clear Ybj
  refine Ybk.t _ (ex_ld rfl (Ybk.f 37) (ldE8 (HP.cell 5 _ rfl))) fun _ Ybl => ?_;clear Ybk
  refine Ybl.c (ex_call rfl (by simp only [LA,LB,LC,(Ybl.f 38),evc] <;> rfl) rfl) (copyent_any x.s.a _ x.s.c x.s.D e2 xin (by omega)) ?_;rintro e e3 ⟨vl,rfl,ol,bl⟩;obtain ⟨al,cl,rfl,_,_⟩:=ol.sl kE;refine ⟨_,rfl,Ybl.k fun Ybm Ybn => ?_⟩;clear Ybl;have HP:=HP.bel bl;have zl:=bl.size;have hbz:=hby.trans (bl.mono zy);clear bl hby
  refine Ybn.t _ (ex_fa rfl (Ybn.f 5) (fb4Bl _ _)) fun _ Ybo => ?_;clear Ybn
  refine vs (e3.setCell ⟨wr.heap.size,5,none⟩ (.slice al x.s.D.length cl)) WN (ex_st rfl (Ybo.f 40) (Ybo.f 39) (stE8 (HP.cell 5 _ rfl) (HP.free 5) _ _ _)) rfl ?_;have HPn:=HP.set (j:=5) (by simp [Bl.cs]) (.slice al x.s.D.length cl);have US : Upd (fun k => k = wr.heap.size) e3 (e3.setCell ⟨wr.heap.size,5,none⟩ (.slice al x.s.D.length cl)):=(Upd.refl (fun k => k = wr.heap.size) _).setCell (p:=⟨wr.heap.size,5,none⟩) (.inl rfl) _
  obtain ⟨e4,he4⟩ : ∃ v,v = e3.setCell ⟨wr.heap.size,5,none⟩ (.slice al x.s.D.length cl):=⟨_,rfl⟩
  rw [← he4] at HPn US ⊢;clear he4 HP;have HP : BX7 e4 wr.heap.size ({ x with s:=⟨al,cl,x.s.D⟩ } : Bl).cs:=HPn;clear HPn;have ol:=ol.upd1 US (fun k hk e => by have:=(ol.blk k hk).1;omega);have hbz:=hbz.trans (US.below (by omega) (fun k hk => by omega));have z4:=US.size;clear US;have hz:=Ybo.z;have s1:=Ybo.a 1 rfl;have s2:=Ybo.a 2 rfl;have s3:=Ybo.a 3 rfl;have s4:=Ybo.a 4 rfl;have s5:=Ybo.a 5 rfl;clear Ybo;refine WE ?_;have oB:=oB.grow hbz;have cB:=cB.bel hbz;have hzz:=hbz.size
  go_upto_region 11 with fail
  refine WL ?_;have Ybp:=(((((Rp.nil hz).cons s1).cons s2).cons s3).cons s4).cons s5;clear hz s1 s2 s3 s4 s5
  refine Ybp.t _ (ex_move rfl (Ybp.f 3)) fun _ Ybq => ?_;clear Ybp
  refine Ybq.t _ (ex_ld rfl (Ybq.f 5) (ldbBl9 HP)) fun _ Ybr => ?_;clear Ybq
  obtain ⟨e5,he5⟩ : ∃ v,v = e4.alloc (.cells (yBlA.cs ({ x with s:=⟨al,cl,x.s.D⟩ } : Bl)).toArray 75):=⟨_,rfl⟩
  have b5 : Below e4.heap.size e4 e5:=by rw [he5];exact BR.alloc LR _
  have p5 : SlY yBlA e5 (some ⟨e4.heap.size,0,none⟩) 1 1 [({ x with s:=⟨al,cl,x.s.D⟩ } : Bl)]:=by rw [he5];exact one9 yBlA e4 ({ x with s:=⟨al,cl,x.s.D⟩ } : Bl)
  have z5:=b5.size
  have hlR : R.length = i:=by rw [cB.1,List.length_take];omega
  obtain ⟨vb2,e6,hr6,oB6,g6,_⟩:=run_appY kBlA e5 30 y9.heap.size _ vb _ _ _ _ p5 (oB.grow b5) (by omega) (by rw [hlR];unfold maxLen;omega) (by rw [hlR];show (i + 1) * 64 ≤ _;omega);have cB6:=(cB.bel b5).row (oB.grow b5) g6;have ol6:=(ol.grow b5).grownZ (oB.grow b5) (by decide) g6;have hb6 : Below y9.heap.size y9 e6:=(oB.grow b5).grown ((hbr.trans (hbz.mono (by omega))).trans (b5.mono (by omega))) g6 (by omega);refine vw (.slice (some ⟨e4.heap.size,0,none⟩) 1 1) e5 WN (ex_bs8 rfl (Ybr.f 42) (by rw [he5];exact bsBl9 ({ x with s:=⟨al,cl,x.s.D⟩ } : Bl) _)) rfl Ybr.z (by decide) (Ybr.k fun Ybs Ybt => ?_);clear Ybr;refine vw (vb2) e6 WN (ex_app8 rfl (Ybt.f 41) (Ybt.f 43) hr6) rfl Ybt.z (by decide) (Ybt.k fun Ybu Ybv => ?_);clear Ybt;clear hr6 g6 p5 he5
  refine Ybv.t _ (ex_assign rfl (Ybv.f 44)) fun _ Ybw => ?_;clear Ybv
  have hz:=Ybw.z;have s1:=Ybw.a 1 rfl;have s2:=Ybw.a 2 rfl;have s3:=Ybw.a 3 rfl;have s4:=Ybw.a 4 rfl;clear Ybw;refine WE ?_
  go_upto_region 8 with fail
  refine WL ?_;have Ybx:=((((Rp.nil hz).cons s1).cons s2).cons s3).cons s4;clear hz s1 s2 s3 s4
  refine Ybx.t _ (ex_move rfl (Ybx.f 4)) fun _ Yby => ?_;clear Ybx
  refine Yby.t (.int .i64 ((i + 1 : Nat) : Int)) (ex_bin rfl (Yby.f 30) rfl (addD8 _ _ _ 1 ((i + 1 : Nat) : Int) (by rw [IntKind.wrap_i64];omega) _)) fun _ Ybz => ?_;clear Yby
  refine Ybz.t _ (ex_assign rfl (Ybz.f 31)) fun _ Yb0 => ?_;clear Ybz
  have hz:=Yb0.z;have s1:=Yb0.a 1 rfl;have s2:=Yb0.a 2 rfl;have s3:=Yb0.a 3 rfl;have s4:=Yb0.a 4 rfl;clear Yb0;refine WE ?_
  have et : s.B.take (i + 1) = s.B.take i ++ [x]:=by rw [List.take_add_one,hxi];rfl
  exact ⟨_,rfl,by omega,hz,s1,s2,s4,vb2,_,s3,oB6,by rw [et];exact cB6.snoc ⟨⟨rfl,rfl,rfl,rfl,rfl,rfl⟩,ol6.low (by omega),by show x.s.D.length * 48 ≤ _;omega⟩,hb6⟩
 ·have d1 : decide ((i : Int) < (s.B.length : Int)) = false:=decide_eq_false (by omega)
  go_upto_region 7 with fail
  refine WL ?_;have Yb1:=((((Rp.nil hz).cons s1).cons s2).cons s3).cons s4;clear hz s1 s2 s3 s4
  refine Yb1.t _ (ex_move rfl (Yb1.f 4)) fun _ Yb2 => ?_;clear Yb1
  refine Yb2.t _ (ex_fa rfl (Yb2.f 1) (faS10 _ _)) fun _ Yb3 => ?_;clear Yb2
  refine Yb3.t _ (ex_ld rfl (Yb3.f 26) (ldB8 (HSr.cell 10 _ rfl))) fun _ Yb4 => ?_;clear Yb3
  refine Yb4.t _ (ex_lenB8 rfl rfl (Yb4.f 27)) fun _ Yb5 => ?_;clear Yb4
  refine Yb5.t (.bool false) (ex_bin rfl (Yb5.f 25) (Yb5.f 28) (lssD8 _ _ _ _ false d1 _)) fun _ Yb6 => ?_;clear Yb5
  have hz:=Yb6.z;have s1:=Yb6.a 1 rfl;have s2:=Yb6.a 2 rfl;have s3:=Yb6.a 3 rfl;have s29:=Yb6.a 29 rfl;clear Yb6;refine WE ?_
  go_upto_region 12 with fail
  refine wp_cond_false ((ev s29 rfl).trans rfl) ?_;clear s29 d1
  obtain rfl : i = s.B.length:=by omega
  rw [List.take_length] at cB;obtain ⟨a10,c10,hvb,_,_⟩:=oB.sl kBlA;rw [hvb] at s3 oB;have p10:=Fr8.of_own (B:=w2.heap.size) kBlA oB hzB;have o10:=oB.low hzB;have t10:=cB.low (B':=w2.heap.size) hzB;clear hvb oB cB HIr HSr hBr hit hi
  obtain ⟨x10,hX⟩ : ∃ v,v = wr:=⟨_,rfl⟩
  obtain ⟨L10,hL10⟩ : ∃ v,v = R:=⟨_,rfl⟩
  rw [← hL10] at p10 t10 o10 s3;rw [← hX] at p10 t10 o10 hbr hzr ⊢;clear hX;clear hL10;have HS:=HS.bel hbr;have HZ:=HZ.bel hbr;have hB:=hB.trans (hbr.mono (by omega));have p4:=p4.later hbr;have o4:=o4.grow hbr;have p6:=p6.later hbr;have o6:=o6.grow hbr;have p8:=p8.later hbr;have o8:=o8.grow hbr;have p9:=p9.later hbr;have o9:=o9.grow hbr;have hzB:=Nat.le_trans hzB hbr.size;clear hbr
  go_upto_region 12 with fail
  refine WL ?_;have Yb7:=(((Rp.nil hz).cons s1).cons s2).cons s3;clear hz s1 s2 s3
  refine Yb7.t _ (ex_move rfl (Yb7.f 3)) fun _ Yb8 => ?_;clear Yb7
  refine Yb8.t _ (ex_fa rfl (Yb8.f 1) (faS10 _ _)) fun _ Yb9 => ?_;clear Yb8
  refine vs (x10.setCell ⟨w.heap.size,10,none⟩ (.slice a10 L10.length c10)) WN (ex_st rfl (Yb9.f 46) (Yb9.f 45) (stB8 (HS.cell 10 _ rfl) (HS.free 10) _ _ _)) rfl ?_;have US : Upd (fun k => k = w.heap.size) x10 (x10.setCell ⟨w.heap.size,10,none⟩ (.slice a10 L10.length c10)):=(Upd.refl (fun k => k = w.heap.size) _).setCell (p:=⟨w.heap.size,10,none⟩) (.inl rfl) _;have HSn:=HS.set (j:=10) (by simp [Sta.cs]) (.slice a10 L10.length c10)
  obtain ⟨y10,hy10⟩ : ∃ v,v = (x10.setCell ⟨w.heap.size,10,none⟩ (.slice a10 L10.length c10)):=⟨_,rfl⟩
  rw [← hy10] at US HSn ⊢;clear hy10 HS;have HS : SB7 y10 (w.heap.size) { s with la:=a4,lc:=c4,va:=a6,vc:=c6,ka:=a8,kc:=c8,ma:=a9,mc:=c9,ba:=a10,bc:=c10,B:=L10 }:=HSn;clear HSn;have HZ:=HZ.upd US (by show ¬ w.heap.size + 1 = w.heap.size;omega);have hB:=hB.trans (US.below hB.size (fun k hk => by omega));have p4:=p4.set US (by omega);have o4:=o4.set9 US (by omega);have p6:=p6.set US (by omega);have o6:=o6.set9 US (by omega);have p8:=p8.set US (by omega);have o8:=o8.set9 US (by omega);have p9:=p9.set US (by omega);have o9:=o9.set9 US (by omega);have p10:=p10.set US (by omega);have t10:=t10.set8 US (by omega);have o10:=o10.set9 US (by omega);have hzB:=Nat.le_trans hzB US.size;clear US;have hz:=Yb9.z;have s1:=Yb9.a 1 rfl;have s2:=Yb9.a 2 rfl;clear Yb9;refine WE ?_
  go_upto_region 13 with fail
  refine WL ?_;have Yca:=((Rp.nil hz).cons s1).cons s2;clear hz s1 s2
  refine Yca.t (.slice none 0 0) (ex_assign rfl rfl) fun _ Ycb => ?_;clear Yca
  have hz:=Ycb.z;have s1:=Ycb.a 1 rfl;have s2:=Ycb.a 2 rfl;have s6:=Ycb.a 6 rfl;clear Ycb;refine WE ?_
  go_upto_region 14 with fail
  refine WL ?_;have Ycc:=(((Rp.nil hz).cons s1).cons s2).cons s6;clear hz s1 s2 s6
  refine Ycc.t (.int .i64 0) (ex_assign rfl rfl) fun _ Ycd => ?_;clear Ycc
  have hz:=Ycd.z;have s1:=Ycd.a 1 rfl;have s2:=Ycd.a 2 rfl;have s6:=Ycd.a 6 rfl;have s7:=Ycd.a 7 rfl;clear Ycd;refine WE ?_;have hsv : _ = some (gw true (.int .i64 ((0 : Nat) : Int))):=s7
  go_upto_region 15 with fail
  refine v_loop 7 s.N.length (fun i T wr => T.size = 70∧T[1]? = some (gw true (.pointer (some ⟨w.heap.size,0,none⟩)))∧T[2]? = some (gw true (.pointer (some ⟨w.heap.size + 1,0,none⟩)))∧T[7]? = some (gw true (.int .i64 (i : Int)))∧Hid (∃ vb R,T[6]? = some (gw true vb)∧OwnY yAnA y10.heap.size wr vb R∧An.Cps y10.heap.size wr (s.N.take i) R∧Below y10.heap.size y10 wr)) (fun i T w h => h.2.2.2.1) ⟨hz,s1,s2,hsv,_,_,s6,OwnY.nil _ _ _,An.Cps.nil _ _,BR⟩ ?_;clear hz s1 s2 s7 s6 hsv;intro i R11 wr hi hh;obtain ⟨hz,s1,s2,s7,HJ⟩:=hh;obtain ⟨vb,R,s6,oB,cB,hbr⟩:=HJ.out;clear HJ;have hzr:=hbr.size;have hBr:=hB.trans (hbr.mono (by omega));have HSr:=HS.bel hbr;have HIr:=(hI.later hBr).n
  by_cases hit : i < s.N.length
  ·have d1 : decide ((i : Int) < (s.N.length : Int)) = true:=decide_eq_true (by omega)
   go_upto_region 15 with fail
   refine WL ?_;have Yce:=((((Rp.nil hz).cons s1).cons s2).cons s6).cons s7;clear hz s1 s2 s6 s7
   refine Yce.t _ (ex_move rfl (Yce.f 7)) fun _ Ycf => ?_;clear Yce
   refine Ycf.t _ (ex_fa rfl (Ycf.f 1) (faS11 _ _)) fun _ Ycg => ?_;clear Ycf
   refine Ycg.t _ (ex_ld rfl (Ycg.f 48) (ldN8 (HSr.cell 11 _ rfl))) fun _ Ych => ?_;clear Ycg
   refine Ych.t _ (ex_lenN8 rfl rfl (Ych.f 49)) fun _ Yci => ?_;clear Ych
   refine Yci.t (.bool true) (ex_bin rfl (Yci.f 47) (Yci.f 50) (lssD8 _ _ _ _ true d1 _)) fun _ Ycj => ?_;clear Yci
   have hz:=Ycj.z;have s1:=Ycj.a 1 rfl;have s2:=Ycj.a 2 rfl;have s6:=Ycj.a 6 rfl;have s7:=Ycj.a 7 rfl;have s51:=Ycj.a 51 rfl;clear Ycj;refine WE ?_
   go_upto_region 17 with fail
   refine wp_cond_true ((ev s51 rfl).trans rfl) ?_;clear s51 d1
   obtain ⟨x,hxi⟩ : ∃ x,s.N[i]? = some x:=⟨_,List.getElem?_eq_getElem hit⟩
   have hmem:=List.mem_of_getElem? hxi;obtain ⟨q,o,hqa,hq,hl⟩:=HIr.place (by intro e;rw [e] at hit;simp at hit)
   obtain ⟨e1,he1⟩ : ∃ y,y = wr.alloc (.cells zAn9.cs.toArray 77):=⟨_,rfl⟩
   have hb : Below wr.heap.size wr e1:=by rw [he1];exact BR.alloc LR _
   have HA : BX7 e1 wr.heap.size zAn9.cs:=by rw [he1];exact BX7.new _ _ _
   go_upto_region 17 with fail
   refine WL ?_;have Yck:=((((Rp.nil hz).cons s1).cons s2).cons s6).cons s7;clear hz s1 s2 s6 s7
   refine Yck.t _ (ex_fa rfl (Yck.f 1) (faS11 _ _)) fun _ Ycl => ?_;clear Yck
   refine Ycl.t _ (ex_ld rfl (Ycl.f 54) (ldN8 (HSr.cell 11 _ rfl))) fun _ Ycm => ?_;clear Ycl
   refine Ycm.t _ (ex_move rfl (Ycm.f 7)) fun _ Ycn => ?_;clear Ycm
   refine Ycn.t (.pointer (some ⟨q,o + i * 6,none⟩)) (ex_ix rfl (Ycn.f 55) (Ycn.f 56) (by rw [hqa];exact ix9An q o s.N.length s.nc i hit _)) fun _ Yco => ?_;clear Ycn
   refine Yco.t _ (ex_ld rfl (Yco.f 57) (ldAn9 (fun k u hu => hl i x hxi k u hu))) fun _ Ycp => ?_;clear Yco
   refine vw (.pointer (some ⟨wr.heap.size,0,none⟩)) e1 WN (ex_al rfl (by rw [he1];exact alAn9 _)) rfl Ycp.z (by decide) (Ycp.k fun Ycq Ycr => ?_);clear Ycp;refine vs (sets e1 wr.heap.size 0 x.cs) WN (ex_st rfl (Ycr.f 8) (Ycr.f 58) (stAn9 HA x)) rfl ?_;have HP:=putAn9 HA x;have UP:=upAn9 e1 wr.heap.size x
   obtain ⟨e2,he2⟩ : ∃ v,v = sets e1 wr.heap.size 0 x.cs:=⟨_,rfl⟩
   rw [← he2] at HP UP ⊢;have hby : Below wr.heap.size wr e2:=hb.trans (UP.below hb.size (fun k hk => by omega));clear he2 he1 HA UP hb hl;have zy:=hby.size;have hqe:=HP.lt;have hz:=Ycr.z;have s1:=Ycr.a 1 rfl;have s2:=Ycr.a 2 rfl;have s6:=Ycr.a 6 rfl;have s7:=Ycr.a 7 rfl;have s8:=Ycr.a 8 rfl;clear Ycr;refine WE ?_;have xin:=((hI.later hBr).nl x hmem).1.later hby;have xb:=hb2 x hmem
   go_upto_region 18 with fail
   refine WL ?_;have Ycs:=(((((Rp.nil hz).cons s1).cons s2).cons s6).cons s7).cons s8;clear hz s1 s2 s6 s7 s8
   refine Ycs.t _ (ex_fa rfl (Ycs.f 8) (fb4An _ _)) fun _ Yct => ?_;clear Ycs
   refine Yct.t _ (ex_ld rfl (Yct.f 59) (ldE8 (HP.cell 5 _ rfl))) fun _ Ycu => ?_;clear Yct
   refine Ycu.c (ex_call rfl (by simp only [LA,LB,LC,(Ycu.f 60),evc] <;> rfl) rfl) (copyent_any x.s.a _ x.s.c x.s.D e2 xin (by omega)) ?_;rintro e e3 ⟨vl,rfl,ol,bl⟩;obtain ⟨al,cl,rfl,_,_⟩:=ol.sl kE;refine ⟨_,rfl,Ycu.k fun Ycv Ycw => ?_⟩;clear Ycu;have HP:=HP.bel bl;have zl:=bl.size;have hbz:=hby.trans (bl.mono zy);clear bl hby
   refine Ycw.t _ (ex_fa rfl (Ycw.f 8) (fb4An _ _)) fun _ Ycx => ?_;clear Ycw
   refine vs (e3.setCell ⟨wr.heap.size,5,none⟩ (.slice al x.s.D.length cl)) WN (ex_st rfl (Ycx.f 62) (Ycx.f 61) (stE8 (HP.cell 5 _ rfl) (HP.free 5) _ _ _)) rfl ?_;have HPn:=HP.set (j:=5) (by simp [An.cs]) (.slice al x.s.D.length cl);have US : Upd (fun k => k = wr.heap.size) e3 (e3.setCell ⟨wr.heap.size,5,none⟩ (.slice al x.s.D.length cl)):=(Upd.refl (fun k => k = wr.heap.size) _).setCell (p:=⟨wr.heap.size,5,none⟩) (.inl rfl) _
   obtain ⟨e4,he4⟩ : ∃ v,v = e3.setCell ⟨wr.heap.size,5,none⟩ (.slice al x.s.D.length cl):=⟨_,rfl⟩
   rw [← he4] at HPn US ⊢;clear he4 HP;have HP : BX7 e4 wr.heap.size ({ x with s:=⟨al,cl,x.s.D⟩ } : An).cs:=HPn;clear HPn;have ol:=ol.upd1 US (fun k hk e => by have:=(ol.blk k hk).1;omega);have hbz:=hbz.trans (US.below (by omega) (fun k hk => by omega));have z4:=US.size;clear US;have hz:=Ycx.z;have s1:=Ycx.a 1 rfl;have s2:=Ycx.a 2 rfl;have s6:=Ycx.a 6 rfl;have s7:=Ycx.a 7 rfl;have s8:=Ycx.a 8 rfl;clear Ycx;refine WE ?_;have oB:=oB.grow hbz;have cB:=cB.bel hbz;have hzz:=hbz.size
   go_upto_region 19 with fail
   refine WL ?_;have Ycy:=(((((Rp.nil hz).cons s1).cons s2).cons s6).cons s7).cons s8;clear hz s1 s2 s6 s7 s8
   refine Ycy.t _ (ex_move rfl (Ycy.f 6)) fun _ Ycz => ?_;clear Ycy
   refine Ycz.t _ (ex_ld rfl (Ycz.f 8) (ldbAn9 HP)) fun _ Yc0 => ?_;clear Ycz
   obtain ⟨e5,he5⟩ : ∃ v,v = e4.alloc (.cells (yAnA.cs ({ x with s:=⟨al,cl,x.s.D⟩ } : An)).toArray 77):=⟨_,rfl⟩
   have b5 : Below e4.heap.size e4 e5:=by rw [he5];exact BR.alloc LR _
   have p5 : SlY yAnA e5 (some ⟨e4.heap.size,0,none⟩) 1 1 [({ x with s:=⟨al,cl,x.s.D⟩ } : An)]:=by rw [he5];exact one9 yAnA e4 ({ x with s:=⟨al,cl,x.s.D⟩ } : An)
   have z5:=b5.size
   have hlR : R.length = i:=by rw [cB.1,List.length_take];omega
   obtain ⟨vb2,e6,hr6,oB6,g6,_⟩:=run_appY kAnA e5 31 y10.heap.size _ vb _ _ _ _ p5 (oB.grow b5) (by omega) (by rw [hlR];unfold maxLen;omega) (by rw [hlR];show (i + 1) * 64 ≤ _;omega);have cB6:=(cB.bel b5).row (oB.grow b5) g6;have ol6:=(ol.grow b5).grownZ (oB.grow b5) (by decide) g6;have hb6 : Below y10.heap.size y10 e6:=(oB.grow b5).grown ((hbr.trans (hbz.mono (by omega))).trans (b5.mono (by omega))) g6 (by omega);refine vw (.slice (some ⟨e4.heap.size,0,none⟩) 1 1) e5 WN (ex_bs8 rfl (Yc0.f 64) (by rw [he5];exact bsAn9 ({ x with s:=⟨al,cl,x.s.D⟩ } : An) _)) rfl Yc0.z (by decide) (Yc0.k fun Yc1 Yc2 => ?_);clear Yc0;refine vw (vb2) e6 WN (ex_app8 rfl (Yc2.f 63) (Yc2.f 65) hr6) rfl Yc2.z (by decide) (Yc2.k fun Yc3 Yc4 => ?_);clear Yc2;clear hr6 g6 p5 he5
   refine Yc4.t _ (ex_assign rfl (Yc4.f 66)) fun _ Yc5 => ?_;clear Yc4
   have hz:=Yc5.z;have s1:=Yc5.a 1 rfl;have s2:=Yc5.a 2 rfl;have s6:=Yc5.a 6 rfl;have s7:=Yc5.a 7 rfl;clear Yc5;refine WE ?_
   go_upto_region 16 with fail
   refine WL ?_;have Yc6:=((((Rp.nil hz).cons s1).cons s2).cons s6).cons s7;clear hz s1 s2 s6 s7
   refine Yc6.t _ (ex_move rfl (Yc6.f 7)) fun _ Yc7 => ?_;clear Yc6
   refine Yc7.t (.int .i64 ((i + 1 : Nat) : Int)) (ex_bin rfl (Yc7.f 52) rfl (addD8 _ _ _ 1 ((i + 1 : Nat) : Int) (by rw [IntKind.wrap_i64];omega) _)) fun _ Yc8 => ?_;clear Yc7
   refine Yc8.t _ (ex_assign rfl (Yc8.f 53)) fun _ Yc9 => ?_;clear Yc8
   have hz:=Yc9.z;have s1:=Yc9.a 1 rfl;have s2:=Yc9.a 2 rfl;have s6:=Yc9.a 6 rfl;have s7:=Yc9.a 7 rfl;clear Yc9;refine WE ?_
   have et : s.N.take (i + 1) = s.N.take i ++ [x]:=by rw [List.take_add_one,hxi];rfl
   exact ⟨_,rfl,by omega,hz,s1,s2,s7,vb2,_,s6,oB6,by rw [et];exact cB6.snoc ⟨⟨rfl,rfl,rfl,rfl,rfl,rfl⟩,ol6.low (by omega),by show x.s.D.length * 48 ≤ _;omega⟩,hb6⟩
  ·have d1 : decide ((i : Int) < (s.N.length : Int)) = false:=decide_eq_false (by omega)
   go_upto_region 15 with fail
   refine WL ?_;have Yda:=((((Rp.nil hz).cons s1).cons s2).cons s6).cons s7;clear hz s1 s2 s6 s7
   refine Yda.t _ (ex_move rfl (Yda.f 7)) fun _ Ydb => ?_;clear Yda
   refine Ydb.t _ (ex_fa rfl (Ydb.f 1) (faS11 _ _)) fun _ Ydc => ?_;clear Ydb
   refine Ydc.t _ (ex_ld rfl (Ydc.f 48) (ldN8 (HSr.cell 11 _ rfl))) fun _ Ydd => ?_;clear Ydc
   refine Ydd.t _ (ex_lenN8 rfl rfl (Ydd.f 49)) fun _ Yde => ?_;clear Ydd
   refine Yde.t (.bool false) (ex_bin rfl (Yde.f 47) (Yde.f 50) (lssD8 _ _ _ _ false d1 _)) fun _ Ydf => ?_;clear Yde
   have hz:=Ydf.z;have s1:=Ydf.a 1 rfl;have s2:=Ydf.a 2 rfl;have s6:=Ydf.a 6 rfl;have s51:=Ydf.a 51 rfl;clear Ydf;refine WE ?_
   go_upto_region 20 with fail
   refine wp_cond_false ((ev s51 rfl).trans rfl) ?_;clear s51 d1
   obtain rfl : i = s.N.length:=by omega
   rw [List.take_length] at cB;obtain ⟨a11,c11,hvb,_,_⟩:=oB.sl kAnA;rw [hvb] at s6 oB;have p11:=Fr8.of_own (B:=w2.heap.size) kAnA oB hzB;have o11:=oB.low hzB;have t11:=cB.low (B':=w2.heap.size) hzB;clear hvb oB cB HIr HSr hBr hit hi
   obtain ⟨x11,hX⟩ : ∃ v,v = wr:=⟨_,rfl⟩
   obtain ⟨L11,hL11⟩ : ∃ v,v = R:=⟨_,rfl⟩
   rw [← hL11] at p11 t11 o11 s6;rw [← hX] at p11 t11 o11 hbr hzr ⊢;clear hX;clear hL11;have HS:=HS.bel hbr;have HZ:=HZ.bel hbr;have hB:=hB.trans (hbr.mono (by omega));have p4:=p4.later hbr;have o4:=o4.grow hbr;have p6:=p6.later hbr;have o6:=o6.grow hbr;have p8:=p8.later hbr;have o8:=o8.grow hbr;have p9:=p9.later hbr;have o9:=o9.grow hbr;have p10:=p10.later hbr;have t10:=t10.bel hbr;have o10:=o10.grow hbr;have hzB:=Nat.le_trans hzB hbr.size;clear hbr
   go_upto_region 20 with fail
   refine WL ?_;have Ydg:=(((Rp.nil hz).cons s1).cons s2).cons s6;clear hz s1 s2 s6
   refine Ydg.t _ (ex_move rfl (Ydg.f 6)) fun _ Ydh => ?_;clear Ydg
   refine Ydh.t _ (ex_fa rfl (Ydh.f 1) (faS11 _ _)) fun _ Ydi => ?_;clear Ydh
   refine vs (x11.setCell ⟨w.heap.size,11,none⟩ (.slice a11 L11.length c11)) WN (ex_st rfl (Ydi.f 68) (Ydi.f 67) (stN8 (HS.cell 11 _ rfl) (HS.free 11) _ _ _)) rfl ?_;have US : Upd (fun k => k = w.heap.size) x11 (x11.setCell ⟨w.heap.size,11,none⟩ (.slice a11 L11.length c11)):=(Upd.refl (fun k => k = w.heap.size) _).setCell (p:=⟨w.heap.size,11,none⟩) (.inl rfl) _;have HSn:=HS.set (j:=11) (by simp [Sta.cs]) (.slice a11 L11.length c11)
   obtain ⟨y11,hy11⟩ : ∃ v,v = (x11.setCell ⟨w.heap.size,11,none⟩ (.slice a11 L11.length c11)):=⟨_,rfl⟩
   rw [← hy11] at US HSn ⊢;clear hy11 HS;have HS : SB7 y11 (w.heap.size) { s with la:=a4,lc:=c4,va:=a6,vc:=c6,ka:=a8,kc:=c8,ma:=a9,mc:=c9,ba:=a10,bc:=c10,B:=L10,na:=a11,nc:=c11,N:=L11 }:=HSn;clear HSn;have HZ:=HZ.upd US (by show ¬ w.heap.size + 1 = w.heap.size;omega);have hB:=hB.trans (US.below hB.size (fun k hk => by omega));have p4:=p4.set US (by omega);have o4:=o4.set9 US (by omega);have p6:=p6.set US (by omega);have o6:=o6.set9 US (by omega);have p8:=p8.set US (by omega);have o8:=o8.set9 US (by omega);have p9:=p9.set US (by omega);have o9:=o9.set9 US (by omega);have p10:=p10.set US (by omega);have t10:=t10.set8 US (by omega);have o10:=o10.set9 US (by omega);have p11:=p11.set US (by omega);have t11:=t11.set8 US (by omega);have o11:=o11.set9 US (by omega);have hzB:=Nat.le_trans hzB US.size;clear US;have hz:=Ydi.z;have s1:=Ydi.a 1 rfl;have s2:=Ydi.a 2 rfl;clear Ydi;refine WE ?_
   go_upto_region 21 with fail
   refine WL ?_;have Ydj:=((Rp.nil hz).cons s1).cons s2;clear hz s1 s2
   refine Ydj.t _ (ex_ld rfl (Ydj.f 1) (SB7.ld HS)) fun _ Ydk => ?_;clear Ydj
   refine vs (sets y11 (w.heap.size + 1) 0 (Sta.cs { s with la:=a4,lc:=c4,va:=a6,vc:=c6,ka:=a8,kc:=c8,ma:=a9,mc:=c9,ba:=a10,bc:=c10,B:=L10,na:=a11,nc:=c11,N:=L11 })) WN (ex_st rfl (Ydk.f 2) (Ydk.f 69) (st12 HZ { s with la:=a4,lc:=c4,va:=a6,vc:=c6,ka:=a8,kc:=c8,ma:=a9,mc:=c9,ba:=a10,bc:=c10,B:=L10,na:=a11,nc:=c11,N:=L11 })) rfl ?_;have HP:=SB7.put HZ { s with la:=a4,lc:=c4,va:=a6,vc:=c6,ka:=a8,kc:=c8,ma:=a9,mc:=c9,ba:=a10,bc:=c10,B:=L10,na:=a11,nc:=c11,N:=L11 };have UP:=upd12 y11 (w.heap.size + 1) { s with la:=a4,lc:=c4,va:=a6,vc:=c6,ka:=a8,kc:=c8,ma:=a9,mc:=c9,ba:=a10,bc:=c10,B:=L10,na:=a11,nc:=c11,N:=L11 }
   obtain ⟨u9,hu9⟩ : ∃ v,v = sets y11 (w.heap.size + 1) 0 (Sta.cs { s with la:=a4,lc:=c4,va:=a6,vc:=c6,ka:=a8,kc:=c8,ma:=a9,mc:=c9,ba:=a10,bc:=c10,B:=L10,na:=a11,nc:=c11,N:=L11 }):=⟨_,rfl⟩
   rw [← hu9] at HP UP ⊢;have hB9:=hide (hB.trans (UP.below hB.size (fun k hk => by omega)));have p4:=p4.set UP (by omega);have o4:=o4.set9 UP (by omega);have p6:=p6.set UP (by omega);have o6:=o6.set9 UP (by omega);have p8:=p8.set UP (by omega);have o8:=o8.set9 UP (by omega);have p9:=p9.set UP (by omega);have o9:=o9.set9 UP (by omega);have p10:=p10.set UP (by omega);have t10:=t10.set8 UP (by omega);have o10:=o10.set9 UP (by omega);have p11:=p11.set UP (by omega);have t11:=t11.set8 UP (by omega);have o11:=o11.set9 UP (by omega);clear hu9 UP;have hz:=Ydk.z;have s2:=Ydk.a 2 rfl;clear Ydk;refine WE ?_
   go_wp2
   refine bodyPost_ret (results_sta rfl (getD_of s2) HP) rfl ?_
   exact ⟨_,rfl,⟨rfl,rfl,rfl,rfl,rfl,rfl,rfl,rfl,rfl,rfl,t10.low (by omega),t11.low (by omega),⟨p4.sl,p6.sl,p8.sl,p9.sl,p10.sl,p11.sl,t10.in8,t11.in8⟩⟩,Sta.Lo.low ⟨p4.lo,p6.lo,p8.lo,p9.lo,p10.lo,p11.lo⟩ (by omega),⟨o4.low (by omega),o6.low (by omega),o8.low (by omega),o9.low (by omega),o10.low (by omega),o11.low (by omega)⟩,hB9.out⟩
theorem copystate9 (s : Sta) (w : World) (hI : s.In w) (hF : s.Fit) (hb1 : ∀ x ∈ s.B,x.s.D.length * 48 ≤ 140737488351232) (hb2 : ∀ x ∈ s.N,x.s.D.length * 48 ≤ 140737488351232) : Calls Tryz.prog 8 #[s.val] w fun e w' => ∃ t : Sta,e = .returned t.val∧t.Cp w.heap.size s w'∧t.Lo w.heap.size∧Below w.heap.size w w' :=
 (copystate9o s w hI hF hb1 hb2).mono fun e w' ⟨t,h1,h2,h3,_,h4⟩ => ⟨t,h1,h2,h3,h4⟩
structure Sta.Alike9 (s t : Sta) : Prop where
 self : t.self = s.self
 st : t.st = s.st
 view : t.view = s.view
 last : t.last = s.last
 commit : t.commit = s.commit
 idle : t.idle = s.idle
 l : t.L = s.L
 v : t.V = s.V
 a : t.A = s.A
 m : t.M = s.M
 b : t.B.length = s.B.length∧∀ (i : Nat) (x y : Bl),s.B[i]? = some x → t.B[i]? = some y → Bl.Like x y
 n : t.N.length = s.N.length∧∀ (i : Nat) (x y : An),s.N[i]? = some x → t.N[i]? = some y → An.Like x y
theorem Sta.Alike9.al {s t : Sta} (h : s.Alike9 t) : t.A.length = s.A.length:=by rw [h.a]
theorem Sta.Alike9.ml {s t : Sta} (h : s.Alike9 t) : t.M.length = s.M.length:=by rw [h.m]
theorem Sta.Alike9.bl {s t : Sta} (h : s.Alike9 t) : t.B.length = s.B.length:=h.b.1
theorem Sta.Alike9.nl {s t : Sta} (h : s.Alike9 t) : t.N.length = s.N.length:=h.n.1
theorem belN9 {B : Nat} {w w' : World} (h : Below B w w') (n : Nat) : Below B w (w'.drewN n):=⟨h.os,h.tape,h.output,h.size,h.block⟩
theorem drew_same9 {f : Nat} {args : Array Value} {w : World} {b : Bool} (h : Calls Tryz.prog f args w fun e w' => e = .returned (.bool b)∧∃ k,w' = w.drewN k) (hb : b = true) : Calls Tryz.prog f args w fun e w' => e = .returned (.bool true)∧Below w.heap.size w w' :=
 h.mono fun e w' ⟨h1,k,h2⟩ => ⟨by rw [h1,hb],by rw [h2];exact belN9 BR k⟩
theorem eqlI9 (x y : Operand) (a b : Int) (h : a = b) (w : World) : (do eqGuard .eql 3 x y (.int .i64 a) (.int .i64 b);binOp .eql 3 (.int .i64 a) (.int .i64 b) : Sem Value).run Tryz.prog w = .ok (.bool true) w:=(eqlC x y a b w).trans (by rw [decide_eq_true h])
theorem eqlT9 (x y : Operand) (a b : Int) (h : a = b) (w : World) : (do eqGuard .eql 24 x y (.int .i64 a) (.int .i64 b);binOp .eql 24 (.int .i64 a) (.int .i64 b) : Sem Value).run Tryz.prog w = .ok (.bool true) w:=(eqlT8 x y a b w).trans (by rw [decide_eq_true h])
theorem want_t9 {ops : Array Oper} {T : Array Value} {o : Oper} {k j : Nat} (hg : o.guard = some (k,true)) (hk : (ops[k]?).bind (·.dst) = some j) (hs : T[j]? = some (gw true (.bool true))) : Region.wanted o (yielded ops T) = true:=want_g hg hk hs
theorem ex_andT9 {o : Oper} {T : Array Value} {df : List Deferred} {j x : Nat} {w : World} (ho : o.op = .pick (.tmp j) (.tmp x) (.const (.bool false))) (hj : T[j]? = some (gw true (.bool true))) (hy : T[x]? = some (gw true (.bool true))) : (execOp (⟨T,df⟩ : Act).eval o).run Tryz.prog w = .ok (.value (.bool true)) w:=ex_and (c:=true) (b:=true) (z:=true) ho hj hy rfl
theorem sameacks9_any (L : List Ak) (a b : Option Addr) (n c c2 : Nat) (w : World) (hL : SlY yAkA w a n c L) (hR : SlY yAkA w b n c2 L) :
  Calls Tryz.prog 35 #[.slice a n c,.slice b n c2] w fun e w' => e = .returned (.bool true)∧∃ k,w' = w.drewN k:=by
 have m1:=hL.max;have m2:=hR.max;have p1:=hL.cap;have p2:=hR.cap
 unfold maxLen at m1 m2
 have HL:=hide hL;have HR:=hide hR;have N1:=hide hL.len;clear hL hR
 go_enter Tryz.func35,Tryz.ntmps35
 go_wp2
 go_loopw [5] (fun i wr => ∃ (j d : Nat),i = .int .i64 (j : Int)∧j ≤ n∧wr = w.drewN d) (fun i _ => n - (intOf i).toNat)
 case atStart => exact ⟨0,0,rfl,Nat.zero_le _,rfl⟩
 case round =>
  obtain ⟨j,d,rfl,hj,rfl⟩:=hrel
  by_cases hlt : j < n
  ·have h1 : j < L.length:=by rw [N1.out];exact hlt
   have g1 : L[j]? = some L[j]:=List.getElem?_eq_getElem h1;obtain ⟨q,o,rfl,hq,a0,a1,a2,a3⟩:=HL.out.AkA g1;obtain ⟨q2,o2,rfl,hq2,b0,b1,b2,b3⟩:=HR.out.AkA g1;clear g1
   generalize L[j] = x at *
   have KC : Hid (∀ v,(∃ k,v = w.drewN k) → (v.cell? ⟨q,o + j * 4,none⟩ = some (.int .i64 x.n)∧v.cell? ⟨q,o + j * 4 + 1,none⟩ = some (.int .u64 x.h)∧v.cell? ⟨q,o + j * 4 + 2,none⟩ = some (.int .u64 x.l)∧v.cell? ⟨q,o + j * 4 + 3,none⟩ = some (.int .i64 x.p))∧(v.cell? ⟨q2,o2 + j * 4,none⟩ = some (.int .i64 x.n)∧v.cell? ⟨q2,o2 + j * 4 + 1,none⟩ = some (.int .u64 x.h)∧v.cell? ⟨q2,o2 + j * 4 + 2,none⟩ = some (.int .u64 x.l)∧v.cell? ⟨q2,o2 + j * 4 + 3,none⟩ = some (.int .i64 x.p))):=fun v hv => by
    obtain ⟨k,rfl⟩:=hv
    exact ⟨⟨a0,a1,a2,a3⟩,⟨b0,b1,b2,b3⟩⟩
   clear a0 a1 a2 a3 b0 b1 b2 b3
   go_wp2_with fail
   refine region_q9 (C:=fun v => ∃ k,v = w.drewN k) (by kernel_rfl) (by kernel_rfl) ⟨d + 1,rfl⟩ ?_;refine wqk (.slice (some ⟨q,o,none⟩) n c) ?_;refine wqk (.int .i64 (j : Int)) ?_;simp only [pu,pn,pv,pw,px];refine wqg (.pointer (some ⟨q,o + j * 4,none⟩)) ?_;simp only [pu,pn,pv,pw,px];refine wqv (u:=x.val) (by kernel_rfl) (fun v hv => by obtain ⟨⟨y0,y1,y2,y3⟩,_⟩:=KC.out v hv;go_simp;rfl) ?_;refine wqk (.slice (some ⟨q2,o2,none⟩) n c2) ?_;refine wqk (.int .i64 (j : Int)) ?_;simp only [pu,pn,pv,pw,px];refine wqg (.pointer (some ⟨q2,o2 + j * 4,none⟩)) ?_;simp only [pu,pn,pv,pw,px];refine wqv (u:=x.val) (by kernel_rfl) (fun v hv => by obtain ⟨_,⟨y0,y1,y2,y3⟩⟩:=KC.out v hv;go_simp;rfl) ?_;simp only [pu,pn,pv,pw,px];refine wqv (u:=.bool false) (by kernel_rfl) (fun v hv => by unfold Ak.val;go_simp) ?_;simp only [pu,pn,pv,pw,px];refine wqnil (fun v hv => ?_);obtain ⟨k,rfl⟩:=hv
   go_wp2
   go_round
   case rel => exact ⟨j + 1,k,by go_num,by omega,rfl⟩
   case measure => simp [intOf];omega
  ·obtain rfl : j = n:=by omega
   go_wp2
   go_ret
   exact ⟨rfl,d,rfl⟩
theorem samemarks9_any (L : List Mk) (a b : Option Addr) (n c c2 : Nat) (w : World) (hL : SlY yMkA w a n c L) (hR : SlY yMkA w b n c2 L) :
  Calls Tryz.prog 36 #[.slice a n c,.slice b n c2] w fun e w' => e = .returned (.bool true)∧∃ k,w' = w.drewN k:=by
 have m1:=hL.max;have m2:=hR.max;have p1:=hL.cap;have p2:=hR.cap
 unfold maxLen at m1 m2
 have HL:=hide hL;have HR:=hide hR;have N1:=hide hL.len;clear hL hR
 go_enter Tryz.func36,Tryz.ntmps36
 go_wp2
 go_loopw [5] (fun i wr => ∃ (j d : Nat),i = .int .i64 (j : Int)∧j ≤ n∧wr = w.drewN d) (fun i _ => n - (intOf i).toNat)
 case atStart => exact ⟨0,0,rfl,Nat.zero_le _,rfl⟩
 case round =>
  obtain ⟨j,d,rfl,hj,rfl⟩:=hrel
  by_cases hlt : j < n
  ·have h1 : j < L.length:=by rw [N1.out];exact hlt
   have g1 : L[j]? = some L[j]:=List.getElem?_eq_getElem h1;obtain ⟨q,o,rfl,hq,a0,a1,a2⟩:=HL.out.MkA g1;obtain ⟨q2,o2,rfl,hq2,b0,b1,b2⟩:=HR.out.MkA g1;clear g1
   generalize L[j] = x at *
   have KC : Hid (∀ v,(∃ k,v = w.drewN k) → (v.cell? ⟨q,o + j * 3,none⟩ = some (.int .i64 x.n)∧v.cell? ⟨q,o + j * 3 + 1,none⟩ = some (.int .u64 x.h)∧v.cell? ⟨q,o + j * 3 + 2,none⟩ = some (.int .u64 x.l))∧(v.cell? ⟨q2,o2 + j * 3,none⟩ = some (.int .i64 x.n)∧v.cell? ⟨q2,o2 + j * 3 + 1,none⟩ = some (.int .u64 x.h)∧v.cell? ⟨q2,o2 + j * 3 + 2,none⟩ = some (.int .u64 x.l))):=fun v hv => by
    obtain ⟨k,rfl⟩:=hv
    exact ⟨⟨a0,a1,a2⟩,⟨b0,b1,b2⟩⟩
   clear a0 a1 a2 b0 b1 b2
   go_wp2_with fail
   refine region_q9 (C:=fun v => ∃ k,v = w.drewN k) (by kernel_rfl) (by kernel_rfl) ⟨d + 1,rfl⟩ ?_;refine wqk (.slice (some ⟨q,o,none⟩) n c) ?_;refine wqk (.int .i64 (j : Int)) ?_;simp only [pu,pn,pv,pw,px];refine wqg (.pointer (some ⟨q,o + j * 3,none⟩)) ?_;simp only [pu,pn,pv,pw,px];refine wqv (u:=x.val) (by kernel_rfl) (fun v hv => by obtain ⟨⟨y0,y1,y2⟩,_⟩:=KC.out v hv;go_simp;rfl) ?_;refine wqk (.slice (some ⟨q2,o2,none⟩) n c2) ?_;refine wqk (.int .i64 (j : Int)) ?_;simp only [pu,pn,pv,pw,px];refine wqg (.pointer (some ⟨q2,o2 + j * 3,none⟩)) ?_;simp only [pu,pn,pv,pw,px];refine wqv (u:=x.val) (by kernel_rfl) (fun v hv => by obtain ⟨_,⟨y0,y1,y2⟩⟩:=KC.out v hv;go_simp;rfl) ?_;simp only [pu,pn,pv,pw,px];refine wqv (u:=.bool false) (by kernel_rfl) (fun v hv => by unfold Mk.val;go_simp) ?_;simp only [pu,pn,pv,pw,px];refine wqnil (fun v hv => ?_);obtain ⟨k,rfl⟩:=hv
   go_wp2
   go_round
   case rel => exact ⟨j + 1,k,by go_num,by omega,rfl⟩
   case measure => simp [intOf];omega
  ·obtain rfl : j = n:=by omega
   go_wp2
   go_ret
   exact ⟨rfl,d,rfl⟩
theorem samestate9 (s t : Sta) (w : World) (hI : s.In w) (hJ : t.In w) (hL : s.Alike9 t) : Calls Tryz.prog 11 #[s.val,t.val] w fun e w' => e = .returned (.bool true)∧Below w.heap.size w w':=by
 go_enter Tryz.func11,Tryz.ntmps11
 go_upto_region 0 with fail
 refine WL ?_;refine vl_gen (fun T => T.size = 87∧T[0]? = some (gw true (s.val))∧T[1]? = some (gw true (t.val))) ⟨rfl,rfl,rfl⟩ (fun Z0 ⟨hz,s0,s1⟩ => ?_)
 obtain ⟨w1,hw1⟩ : ∃ y,y = w.alloc (.cells s.cs.toArray 33):=⟨_,rfl⟩
 have hb : Below w.heap.size w w1:=by rw [hw1];exact BR.alloc LR _
 have hs1 : w1.heap.size = w.heap.size + 1:=by rw [hw1];simp
 have HS : SB7 w1 (w.heap.size) s:=by rw [hw1];exact BX7.new _ _ _
 refine vw (.pointer (some ⟨w.heap.size,0,none⟩)) w1 WN (ex_box8 rfl (ev s0 rfl) (by rw [hw1];exact bxS7 _ _)) rfl hz (by decide) (fun Z1 zz kk s2x => ?_);replace s1:=ku s1;clear kk hz s0 hw1;have hz:=zz;have s2:=s2x;clear zz s2x;have hB:=hb;clear hb
 obtain ⟨w2,hw2⟩ : ∃ y,y = w1.alloc (.cells t.cs.toArray 33):=⟨_,rfl⟩
 have hb : Below w1.heap.size w1 w2:=by rw [hw2];exact BR.alloc LR _
 have hs2 : w2.heap.size = w.heap.size + 2:=by rw [hw2];simp;omega
 have HT : SB7 w2 (w.heap.size + 1) t:=by rw [hw2,← hs1];exact BX7.new _ _ _
 refine vw (.pointer (some ⟨w.heap.size + 1,0,none⟩)) w2 WN (ex_box8 rfl (ev s1 rfl) (by rw [hw2,← hs1];exact bxS7 _ _)) rfl hz (by decide) (fun Z2 zz kk s3x => ?_);replace s2:=ku s2;clear kk hz s1 hw2;have hz:=zz;have s3:=s3x;clear zz s3x;have hB:=hB.trans (hb.mono (by omega));have HS:=HS.bel hb;clear hb;have hv0 : Below w2.heap.size w2 w2:=BR;have HI:=hI.later hB;have HJ:=hJ.later hB;refine vt (.bool false) (ex_assign rfl rfl) hz (fun Ya zz kk s4 => ?_);replace s2:=ku s2;replace s3:=ku s3;replace hz:=zz;clear kk zz;refine WE ?_
 go_upto_region 1 with fail
 refine WL ?_;have Yb:=(((Rp.nil hz).cons s2).cons s3).cons s4;clear hz s2 s3 s4
 refine Yb.t _ (ex_fa rfl (Yb.f 2) (faS0 _ _)) fun _ Yc => ?_;clear Yb
 refine Yc.t _ (ex_ld rfl (Yc.f 5) (ldI8 (cell8 (HS.cell 0 _ rfl) hv0))) fun _ Yd => ?_;clear Yc
 refine Yd.t _ (ex_fa rfl (Yd.f 3) (faS0 _ _)) fun _ Ye => ?_;clear Yd
 refine Ye.t _ (ex_ld rfl (Ye.f 7) (ldI8 (cell8 (HT.cell 0 _ rfl) hv0))) fun _ Yf => ?_;clear Ye
 refine Yf.t (.bool true) (ex_bin rfl (Yf.f 6) (Yf.f 8) (eqlI9 _ _ _ _ hL.self.symm _)) fun _ Yg => ?_;clear Yf
 refine Yg.t _ (ex_move rfl (Yg.f 9)) fun _ Yh => ?_;clear Yg
 refine Yh.u 10 rfl _ (ex_fa rfl (Yh.f 2) (faS1 _ _)) fun _ Yj => ?_;clear Yh
 refine Yj.u 10 rfl _ (ex_ld rfl (Yj.f 11) (ldT8 (cell8 (HS.cell 1 _ rfl) hv0))) fun _ Yl => ?_;clear Yj
 refine Yl.u 10 rfl _ (ex_fa rfl (Yl.f 3) (faS1 _ _)) fun _ Yn => ?_;clear Yl
 refine Yn.u 10 rfl _ (ex_ld rfl (Yn.f 13) (ldT8 (cell8 (HT.cell 1 _ rfl) hv0))) fun _ Yp => ?_;clear Yn
 refine Yp.u 10 rfl (.bool true) (ex_bin rfl (Yp.f 12) (Yp.f 14) (eqlT9 _ _ _ _ hL.st.symm _)) fun _ Yr => ?_;clear Yp
 refine Yr.t (.bool true) (ex_andT9 rfl (Yr.a 10 rfl) (Yr.a 15 rfl)) fun _ Ys => ?_;clear Yr
 refine Ys.t _ (ex_move rfl (Ys.f 16)) fun _ Yt => ?_;clear Ys
 refine Yt.u 17 rfl _ (ex_fa rfl (Yt.f 2) (faS2 _ _)) fun _ Yv => ?_;clear Yt
 refine Yv.u 17 rfl _ (ex_ld rfl (Yv.f 18) (ldI8 (cell8 (HS.cell 2 _ rfl) hv0))) fun _ Yx => ?_;clear Yv
 refine Yx.u 17 rfl _ (ex_fa rfl (Yx.f 3) (faS2 _ _)) fun _ Yz => ?_;clear Yx
 refine Yz.u 17 rfl _ (ex_ld rfl (Yz.f 20) (ldI8 (cell8 (HT.cell 2 _ rfl) hv0))) fun _ Y1 => ?_;clear Yz
 refine Y1.u 17 rfl (.bool true) (ex_bin rfl (Y1.f 19) (Y1.f 21) (eqlI9 _ _ _ _ hL.view.symm _)) fun _ Y3 => ?_;clear Y1
 refine Y3.t (.bool true) (ex_andT9 rfl (Y3.a 17 rfl) (Y3.a 22 rfl)) fun _ Y4 => ?_;clear Y3
 refine Y4.t _ (ex_move rfl (Y4.f 23)) fun _ Y5 => ?_;clear Y4
 refine Y5.u 24 rfl _ (ex_fa rfl (Y5.f 2) (faS3 _ _)) fun _ Y7 => ?_;clear Y5
 refine Y7.u 24 rfl _ (ex_ld rfl (Y7.f 25) (ldI8 (cell8 (HS.cell 3 _ rfl) hv0))) fun _ Y9 => ?_;clear Y7
 refine Y9.u 24 rfl _ (ex_fa rfl (Y9.f 3) (faS3 _ _)) fun _ Ybb => ?_;clear Y9
 refine Ybb.u 24 rfl _ (ex_ld rfl (Ybb.f 27) (ldI8 (cell8 (HT.cell 3 _ rfl) hv0))) fun _ Ybd => ?_;clear Ybb
 refine Ybd.u 24 rfl (.bool true) (ex_bin rfl (Ybd.f 26) (Ybd.f 28) (eqlI9 _ _ _ _ hL.last.symm _)) fun _ Ybf => ?_;clear Ybd
 refine Ybf.t (.bool true) (ex_andT9 rfl (Ybf.a 24 rfl) (Ybf.a 29 rfl)) fun _ Ybg => ?_;clear Ybf
 refine Ybg.t _ (ex_move rfl (Ybg.f 30)) fun _ Ybh => ?_;clear Ybg
 refine Ybh.u 31 rfl _ (ex_fa rfl (Ybh.f 2) (faS5 _ _)) fun _ Ybj => ?_;clear Ybh
 refine Ybj.u 31 rfl _ (ex_ld rfl (Ybj.f 32) (ldI8 (cell8 (HS.cell 5 _ rfl) hv0))) fun _ Ybl => ?_;clear Ybj
 refine Ybl.u 31 rfl _ (ex_fa rfl (Ybl.f 3) (faS5 _ _)) fun _ Ybn => ?_;clear Ybl
 refine Ybn.u 31 rfl _ (ex_ld rfl (Ybn.f 34) (ldI8 (cell8 (HT.cell 5 _ rfl) hv0))) fun _ Ybp => ?_;clear Ybn
 refine Ybp.u 31 rfl (.bool true) (ex_bin rfl (Ybp.f 33) (Ybp.f 35) (eqlI9 _ _ _ _ hL.commit.symm _)) fun _ Ybr => ?_;clear Ybp
 refine Ybr.t (.bool true) (ex_andT9 rfl (Ybr.a 31 rfl) (Ybr.a 36 rfl)) fun _ Ybs => ?_;clear Ybr
 refine Ybs.t _ (ex_move rfl (Ybs.f 37)) fun _ Ybt => ?_;clear Ybs
 refine Ybt.u 38 rfl _ (ex_fa rfl (Ybt.f 2) (faS7 _ _)) fun _ Ybv => ?_;clear Ybt
 refine Ybv.u 38 rfl _ (ex_ld rfl (Ybv.f 39) (ldI8 (cell8 (HS.cell 7 _ rfl) hv0))) fun _ Ybx => ?_;clear Ybv
 refine Ybx.u 38 rfl _ (ex_fa rfl (Ybx.f 3) (faS7 _ _)) fun _ Ybz => ?_;clear Ybx
 refine Ybz.u 38 rfl _ (ex_ld rfl (Ybz.f 41) (ldI8 (cell8 (HT.cell 7 _ rfl) hv0))) fun _ Yb1 => ?_;clear Ybz
 refine Yb1.u 38 rfl (.bool true) (ex_bin rfl (Yb1.f 40) (Yb1.f 42) (eqlI9 _ _ _ _ hL.idle.symm _)) fun _ Yb3 => ?_;clear Yb1
 refine Yb3.t (.bool true) (ex_andT9 rfl (Yb3.a 38 rfl) (Yb3.a 43 rfl)) fun _ Yb4 => ?_;clear Yb3
 refine Yb4.t _ (ex_move rfl (Yb4.f 44)) fun _ Yb5 => ?_;clear Yb4
 refine Yb5.u 45 rfl _ (ex_fa rfl (Yb5.f 2) (faS4 _ _)) fun _ Yb7 => ?_;clear Yb5
 refine Yb7.u 45 rfl _ (ex_ld rfl (Yb7.f 46) (ldE8 (cell8 (HS.cell 4 _ rfl) hv0))) fun _ Yb9 => ?_;clear Yb7
 refine Yb9.u 45 rfl _ (ex_fa rfl (Yb9.f 3) (faS4 _ _)) fun _ Ycb => ?_;clear Yb9
 refine Ycb.u 45 rfl _ (ex_ld rfl (Ycb.f 48) (ldE8 (cell8 (HT.cell 4 _ rfl) hv0))) fun _ Ycd => ?_;clear Ycb
 refine vcall true (.bool true) (want_t9 rfl rfl (Ycd.a 45 rfl)) (fun hc => ex_call rfl (by simp only [LA,LB,LC,(Ycd.f 47),(Ycd.f 49),evc] <;> rfl) rfl) (fun hc => drew_same9 (sameentsB s.L t.L _ _ _ _ _ _ w2 (HI.later hv0).l (HJ.later hv0).l) (decide_eq_true hL.l.symm)) rfl Ycd.z (by decide) (Ycd.kc fun Yce x1 hb Ycf => ?_);clear Ycd;have hx1:=hv0.trans (hb.mono hv0.size);clear hb
 refine Ycf.t (.bool true) (ex_andT9 rfl (Ycf.a 45 rfl) (Ycf.a 50 rfl)) fun _ Ycg => ?_;clear Ycf
 refine Ycg.t _ (ex_move rfl (Ycg.f 51)) fun _ Ych => ?_;clear Ycg
 refine Ych.u 52 rfl _ (ex_fa rfl (Ych.f 2) (faS6 _ _)) fun _ Ycj => ?_;clear Ych
 refine Ycj.u 52 rfl _ (ex_ld rfl (Ycj.f 53) (ldV8 (cell8 (HS.cell 6 _ rfl) hx1))) fun _ Ycl => ?_;clear Ycj
 refine Ycl.u 52 rfl _ (ex_fa rfl (Ycl.f 3) (faS6 _ _)) fun _ Ycn => ?_;clear Ycl
 refine Ycn.u 52 rfl _ (ex_ld rfl (Ycn.f 55) (ldV8 (cell8 (HT.cell 6 _ rfl) hx1))) fun _ Ycp => ?_;clear Ycn
 refine vcall true (.bool true) (want_t9 rfl rfl (Ycp.a 52 rfl)) (fun hc => ex_call rfl (by simp only [LA,LB,LC,(Ycp.f 54),(Ycp.f 56),evc] <;> rfl) rfl) (fun hc => drew_same9 (samevecB s.V t.V _ _ _ _ _ _ x1 (HI.later hx1).v (HJ.later hx1).v) (decide_eq_true hL.v.symm)) rfl Ycp.z (by decide) (Ycp.kc fun Ycq x2 hb Ycr => ?_);clear Ycp;have hx2:=hx1.trans (hb.mono hx1.size);clear hb
 refine Ycr.t (.bool true) (ex_andT9 rfl (Ycr.a 52 rfl) (Ycr.a 57 rfl)) fun _ Ycs => ?_;clear Ycr
 refine Ycs.t _ (ex_move rfl (Ycs.f 58)) fun _ Yct => ?_;clear Ycs
 refine Yct.u 59 rfl _ (ex_fa rfl (Yct.f 2) (faS8 _ _)) fun _ Ycv => ?_;clear Yct
 refine Ycv.u 59 rfl _ (ex_ld rfl (Ycv.f 60) (ldK8 (cell8 (HS.cell 8 _ rfl) hx2))) fun _ Ycx => ?_;clear Ycv
 refine Ycx.u 59 rfl _ (ex_fa rfl (Ycx.f 3) (faS8 _ _)) fun _ Ycz => ?_;clear Ycx
 refine Ycz.u 59 rfl (.slice t.ka s.A.length t.kc) (ex_ld rfl (Ycz.f 62) (by rw [← hL.al];exact (ldK8 (cell8 (HT.cell 8 _ rfl) hx2)))) fun _ Yc1 => ?_;clear Ycz
 refine vcall true (.bool true) (want_t9 rfl rfl (Yc1.a 59 rfl)) (fun hc => ex_call rfl (by simp only [LA,LB,LC,(Yc1.f 61),(Yc1.f 63),evc] <;> rfl) rfl) (fun hc => drew_same9 (sameacks9_any s.A _ _ _ _ _ x2 (HI.later hx2).a (by have q:=(HJ.later hx2).a;rw [hL.a] at q;exact q)) rfl) rfl Yc1.z (by decide) (Yc1.kc fun Yc2 x3 hb Yc3 => ?_);clear Yc1;have hx3:=hx2.trans (hb.mono hx2.size);clear hb
 refine Yc3.t (.bool true) (ex_andT9 rfl (Yc3.a 59 rfl) (Yc3.a 64 rfl)) fun _ Yc4 => ?_;clear Yc3
 refine Yc4.t _ (ex_move rfl (Yc4.f 65)) fun _ Yc5 => ?_;clear Yc4
 refine Yc5.u 66 rfl _ (ex_fa rfl (Yc5.f 2) (faS9 _ _)) fun _ Yc7 => ?_;clear Yc5
 refine Yc7.u 66 rfl _ (ex_ld rfl (Yc7.f 67) (ldM8 (cell8 (HS.cell 9 _ rfl) hx3))) fun _ Yc9 => ?_;clear Yc7
 refine Yc9.u 66 rfl _ (ex_fa rfl (Yc9.f 3) (faS9 _ _)) fun _ Ydb => ?_;clear Yc9
 refine Ydb.u 66 rfl (.slice t.ma s.M.length t.mc) (ex_ld rfl (Ydb.f 69) (by rw [← hL.ml];exact (ldM8 (cell8 (HT.cell 9 _ rfl) hx3)))) fun _ Ydd => ?_;clear Ydb
 refine vcall true (.bool true) (want_t9 rfl rfl (Ydd.a 66 rfl)) (fun hc => ex_call rfl (by simp only [LA,LB,LC,(Ydd.f 68),(Ydd.f 70),evc] <;> rfl) rfl) (fun hc => drew_same9 (samemarks9_any s.M _ _ _ _ _ x3 (HI.later hx3).m (by have q:=(HJ.later hx3).m;rw [hL.m] at q;exact q)) rfl) rfl Ydd.z (by decide) (Ydd.kc fun Yde x4 hb Ydf => ?_);clear Ydd;have hx4:=hx3.trans (hb.mono hx3.size);clear hb
 refine Ydf.t (.bool true) (ex_andT9 rfl (Ydf.a 66 rfl) (Ydf.a 71 rfl)) fun _ Ydg => ?_;clear Ydf
 refine Ydg.t _ (ex_move rfl (Ydg.f 72)) fun _ Ydh => ?_;clear Ydg
 refine Ydh.u 73 rfl _ (ex_fa rfl (Ydh.f 2) (faS10 _ _)) fun _ Ydj => ?_;clear Ydh
 refine Ydj.u 73 rfl _ (ex_ld rfl (Ydj.f 74) (ldB8 (cell8 (HS.cell 10 _ rfl) hx4))) fun _ Ydl => ?_;clear Ydj
 refine Ydl.u 73 rfl _ (ex_fa rfl (Ydl.f 3) (faS10 _ _)) fun _ Ydn => ?_;clear Ydl
 refine Ydn.u 73 rfl (.slice t.ba s.B.length t.bc) (ex_ld rfl (Ydn.f 76) (by rw [← hL.bl];exact (ldB8 (cell8 (HT.cell 10 _ rfl) hx4)))) fun _ Ydp => ?_;clear Ydn
 refine vcall true (.bool true) (want_t9 rfl rfl (Ydp.a 73 rfl)) (fun hc => ex_call rfl (by simp only [LA,LB,LC,(Ydp.f 75),(Ydp.f 77),evc] <;> rfl) rfl) (fun hc => drew_same9 (Bl.same_any s.B t.B _ _ _ _ _ x4 (HI.later hx4).b (by have q:=(HJ.later hx4).b;rw [hL.b.1] at q;exact q) hL.b.2 (HI.later hx4).bl (HJ.later hx4).bl) rfl) rfl Ydp.z (by decide) (Ydp.kc fun Ydq x5 hb Ydr => ?_);clear Ydp;have hx5:=hx4.trans (hb.mono hx4.size);clear hb
 refine Ydr.t (.bool true) (ex_andT9 rfl (Ydr.a 73 rfl) (Ydr.a 78 rfl)) fun _ Yds => ?_;clear Ydr
 refine Yds.t _ (ex_move rfl (Yds.f 79)) fun _ Ydt => ?_;clear Yds
 refine Ydt.u 80 rfl _ (ex_fa rfl (Ydt.f 2) (faS11 _ _)) fun _ Ydv => ?_;clear Ydt
 refine Ydv.u 80 rfl _ (ex_ld rfl (Ydv.f 81) (ldN8 (cell8 (HS.cell 11 _ rfl) hx5))) fun _ Ydx => ?_;clear Ydv
 refine Ydx.u 80 rfl _ (ex_fa rfl (Ydx.f 3) (faS11 _ _)) fun _ Ydz => ?_;clear Ydx
 refine Ydz.u 80 rfl (.slice t.na s.N.length t.nc) (ex_ld rfl (Ydz.f 83) (by rw [← hL.nl];exact (ldN8 (cell8 (HT.cell 11 _ rfl) hx5)))) fun _ Yd1 => ?_;clear Ydz
 refine vcall true (.bool true) (want_t9 rfl rfl (Yd1.a 80 rfl)) (fun hc => ex_call rfl (by simp only [LA,LB,LC,(Yd1.f 82),(Yd1.f 84),evc] <;> rfl) rfl) (fun hc => drew_same9 (An.same_any s.N t.N _ _ _ _ _ x5 (HI.later hx5).n (by have q:=(HJ.later hx5).n;rw [hL.n.1] at q;exact q) hL.n.2 (HI.later hx5).nl (HJ.later hx5).nl) rfl) rfl Yd1.z (by decide) (Yd1.kc fun Yd2 x6 hb Yd3 => ?_);clear Yd1;have hx6:=hx5.trans (hb.mono hx5.size);clear hb
 refine Yd3.t (.bool true) (ex_andT9 rfl (Yd3.a 80 rfl) (Yd3.a 85 rfl)) fun _ Yd4 => ?_;clear Yd3
 refine Yd4.t _ (ex_assign rfl (Yd4.f 86)) fun _ Yd5 => ?_;clear Yd4
 have hz:=Yd5.z;have s4:=Yd5.a 4 rfl;clear Yd5;refine WE ?_
 go_wp2
 refine bodyPost_ret (results_tmp rfl _ _ _) rfl ⟨?_,hB.trans (hx6.mono (by omega))⟩;rw [getD_of s4]
 rfl
end Go.Proofs.YtpcgnjpodnebpaaGreatDoor
namespace Go.Proofs.YtpcgnjpodnebpaaGreatDoor
open Go.RowKit Go.Maps
open Classical
theorem neqU8 (x y : Operand) (a b : Int) (w : World) : (do eqGuard .neq 95 x y (.int .u8 a) (.int .u8 b);binOp .neq 95 (.int .u8 a) (.int .u8 b) : Sem Value).run Tryz.prog w = .ok (.bool (!decide (a = b))) w:=by
 go_simp
 by_cases h : a = b <;> simp [h]
theorem ixTab (k : Nat) (hk : k < 15) (w : World) : (Instr.indexAt 97 (.pointer (some ⟨0,0,none⟩)) (.int .i64 (k : Int))).run Tryz.prog w = .ok (.pointer (some ⟨0,k * 10,none⟩)) w:=by
 have h1 : (k : Int) < 15:=by omega
 go_simp
theorem ixR7 (o : Nat) (w : World) : (Instr.indexAt 96 (.pointer (some ⟨0,o,none⟩)) (.int .i64 9)).run Tryz.prog w = .ok (.pointer (some ⟨0,o + 9,none⟩)) w:=by go_simp
theorem ldR7 {w : World} {o : Nat} {x : Int} (h : w.cell? ⟨0,o,none⟩ = some (.int .u8 x)) : (Instr.loadAt 95 (.pointer (some ⟨0,o,none⟩))).run Tryz.prog w = .ok (.int .u8 x) w:=by go_simp
def btB (k : Int) : Bool:=decide (3 ≤ k) && decide (k ≤ 12)
theorem bt_row : ∀ k,k < 15 → 1 ≤ k → (true && !decide ((tabA k 9 : Int) = 0)) = (decide (3 ≤ (k : Int)) && decide ((k : Int) ≤ 12)):=by decide
theorem between7 (x : Int) (w : World) (hT : Tab w) : Calls Tryz.prog 15 #[.int .i64 x] w fun e w' => e = .returned (.bool (btB x))∧w' = w:=by
 cases hkd : kdB x with
 | false =>
  have hv : btB x = false:=by
   unfold kdB inR at hkd
   unfold btB
   simp only [Bool.and_eq_false_iff,decide_eq_false_iff_not] at hkd ⊢
   omega
  rw [hv];have HC:=hide (isKind_any x w);rw [hkd] at HC;clear hT hkd hv
  go_enter Tryz.func15,Tryz.ntmps15
  go_wp2_with fail
  refine HC.out.mono ?_;rintro e w1 ⟨rfl,rfl⟩
  go_wp2
  go_ret
  exact ⟨rfl,rfl⟩
 | true =>
  have hk : 1 ≤ x∧x ≤ 14:=by
   unfold kdB inR at hkd
   simpa only [Bool.and_eq_true,decide_eq_true_eq] using hkd
  obtain ⟨k,rfl⟩:=Int.eq_ofNat_of_zero_le (show 0 ≤ x by omega)
  have hk2 : k < 15:=by omega
  have hv : btB (k : Int) = (true && !decide ((tabA k 9 : Int) = 0)):=(bt_row k hk2 (by omega)).symm;rw [hv]
  go_enter Tryz.func15,Tryz.ntmps15
  go_upto_region 1 with fail
  refine WL ?_;refine vl_gen (fun T => T.size = 12∧T[0]? = some (gw true (.int .i64 (k : Int)))) ⟨rfl,rfl⟩ (fun T0 ⟨hz,s0⟩ => ?_);refine vt _ (ex_move rfl (ev s0 rfl)) hz (fun T1 zz kk s3 => ?_);replace s0:=ku s0;replace hz:=zz;clear kk zz;refine vcallP WN (ex_call rfl (by simp only [LA,LB,LC,(ev s3 rfl),evc] <;> rfl) rfl) (isKind_any (k : Int) w) rfl hz (by decide) ?_;rintro e w1 ⟨rfl,rfl⟩;refine ⟨_,rfl,fun T2 zz kk s4 => ?_⟩;replace s0:=ku s0;replace hz:=zz;clear kk zz s3;rw [hkd] at s4;refine vt _ (ex_move rfl (ev s4 rfl)) hz (fun T3 zz kk s5 => ?_);replace s0:=ku s0;replace hz:=zz;clear kk zz s4;refine vl true _ (want_t9 rfl rfl s5) (fun hc => ex_move rfl (ev s0 rfl)) rfl hz (by decide) (fun T4 zz kk s6 => ?_);replace s5:=ku s5;replace hz:=zz;clear kk zz s0;refine vl true (.pointer (some ⟨0,k * 10,none⟩)) (want_t9 rfl rfl s5) (fun hc => ex_ix rfl rfl (ev s6 rfl) (ixTab k hk2 _)) rfl hz (by decide) (fun T5 zz kk s7 => ?_);replace s5:=ku s5;replace hz:=zz;clear kk zz s6;refine vl true (.pointer (some ⟨0,k * 10 + 9,none⟩)) (want_t9 rfl rfl s5) (fun hc => ex_ix rfl (ev s7 rfl) rfl (ixR7 _ _)) rfl hz (by decide) (fun T6 zz kk s8 => ?_);replace s5:=ku s5;replace hz:=zz;clear kk zz s7;refine vl true (.int .u8 (tabA k 9 : Int)) (want_t9 rfl rfl s5) (fun hc => ex_ld rfl (ev s8 rfl) (ldR7 (hT.cell k 9 hk2 (by decide)))) rfl hz (by decide) (fun T7 zz kk s9 => ?_);replace s5:=ku s5;replace hz:=zz;clear kk zz s8;refine vl true (.bool (!decide ((tabA k 9 : Int) = 0))) (want_t9 rfl rfl s5) (fun hc => ex_bin rfl (ev s9 rfl) rfl (neqU8 _ _ _ _ _)) rfl hz (by decide) (fun T8 zz kk s10 => ?_);replace s5:=ku s5;replace hz:=zz;clear kk zz s9;refine vt (.bool (true && !decide ((tabA k 9 : Int) = 0))) (ex_and (c:=true) (b:=true) rfl s5 s10 rfl) hz (fun T9 zz kk s11 => ?_);replace hz:=zz;clear kk zz s5 s10;refine vt _ (ex_assign rfl (ev s11 rfl)) hz (fun Ta zz kk s2 => ?_);replace hz:=zz;clear kk zz s11;refine WE ?_
  go_wp2
  refine bodyPost_ret (results_tmp rfl _ _ _) rfl ⟨?_,rfl⟩;rw [getD_of s2]
  rfl
end Go.Proofs.YtpcgnjpodnebpaaGreatDoor
namespace Go.Proofs.YtpcgnjpodnebpaaGreatDoor
open Go.RowKit Go.Maps Go.Shelf
open Classical
theorem ex_slice9 {o : Oper} {ρ : Operand → Value} {s : TypeId} {x : Operand} {lo hi mx : Option Operand} {X V : Value} {l h m : Option Value} {w : World} (ho : o.op = .slice s x lo hi mx) (hx : ρ x = X) (hl : lo.map ρ = l) (hh : hi.map ρ = h) (hm : mx.map ρ = m) (hr : (Instr.sliceAt s X l h m).run Tryz.prog w = .ok V w) : (execOp ρ o).run Tryz.prog w = .ok (.value V) w:=by
 unfold execOp
 simp only [ho,hx,hl,hh,hm]
 simp [hr]
theorem results_two9 {fn : Func} {j k : Tmp} {x y : Value} {tmps : Array Value} {w : World} (h : fn.results = #[.tmp j,.tmp k]) (hj : tmps.getD j undef = x) (hk : tmps.getD k undef = y) : (results fn tmps).run Tryz.prog w = .ok (.tuple #[x,y]) w:=by
 simp only [results,h];simp only [Array.getD_eq_getD_getElem?] at hj hk
 simp [Sem.run_bind,Result.andThen,hj,hk]
theorem ex_lenVV9 {o : Oper} {ρ : Operand → Value} {i : Nat} {a : Option Addr} {n k : Nat} {w : World} (ho : o.op = .call { callee:=.builtin .len,args:=#[.tmp i],argTypes:=#[108] }) (ht : o.type = 3) (hx : ρ (.tmp i) = .slice a n k) : (execOp ρ o).run Tryz.prog w = .ok (.value (.int .i64 (n : Int))) w:=by
 unfold execOp
 simp only [ho,resolve,invoke,builtin,Sem.run_bind,Sem.run_pure,Result.andThen_ok,LA,LB,LC,hx,ht]
 go_simp
theorem eql20_9 (x y : Operand) (w : World) : (do eqGuard .eql 3 x y (.int .i64 2) (.int .i64 0);binOp .eql 3 (.int .i64 2) (.int .i64 0) : Sem Value).run Tryz.prog w = .ok (.bool false) w:=eqlC x y 2 0 w
theorem neqE9 (x y : Operand) (a b : Int) (h : a = b) (w : World) : (do eqGuard .neq 3 x y (.int .i64 a) (.int .i64 b);binOp .neq 3 (.int .i64 a) (.int .i64 b) : Sem Value).run Tryz.prog w = .ok (.bool false) w:=(neqC x y a b w).trans (by rw [decide_eq_true h];rfl)
theorem ixVV9 (g : Nat) (w : World) : (Instr.indexAt 108 (.slice (some ⟨g,0,none⟩) 2 2) (.int .i64 0)).run Tryz.prog w = .ok (.pointer (some ⟨g,0,none⟩)) w:=by go_simp
theorem ixVV1_9 (g : Nat) (w : World) : (Instr.indexAt 108 (.slice (some ⟨g,1,none⟩) 1 1) (.int .i64 ((0 : Nat) : Int))).run Tryz.prog w = .ok (.pointer (some ⟨g,1,none⟩)) w:=by
 show (Instr.indexAt 108 (.slice (some ⟨g,1,none⟩) 1 1) (.int .i64 0)).run Tryz.prog w = _
 go_simp
theorem slVV9 (g : Nat) (w : World) : (Instr.sliceAt 108 (.slice (some ⟨g,0,none⟩) 2 2) (some (.int .i64 1)) none none).run Tryz.prog w = .ok (.slice (some ⟨g,1,none⟩) 1 1) w:=by
 go_simp
 first | done | rfl
theorem merge9 (D V : List (Int × Int)) (a1 a2 : Option Addr) (c1 c2 g0 : Nat) (w : World) (h1 : SlY yD w a1 D.length c1 D) (h2 : SlY yD w a2 V.length c2 V) (hl : V.length = D.length) (hn : 1 ≤ D.length∧D.length ≤ 7) (b0 : w.cell? ⟨g0,0,none⟩ = some (.slice a1 D.length c1)) (b1 : w.cell? ⟨g0,1,none⟩ = some (.slice a2 V.length c2)) : Calls Tryz.prog 28 #[.slice (some ⟨g0,0,none⟩) 2 2] w fun e w' => ∃ g,e = .returned (.tuple #[.slice (some ⟨g,0,none⟩) D.length D.length,.int .i64 0])∧OwnY yD w.heap.size w' (.slice (some ⟨g,0,none⟩) D.length D.length) (jn9 D V)∧Below w.heap.size w w':=by
 go_enter Tryz.func28,Tryz.ntmps28
 go_upto_region 0 with fail
 refine WL ?_;refine vl_gen (fun T => T.size = 38∧T[0]? = some (gw true (.slice (some ⟨g0,0,none⟩) 2 2))) ⟨rfl,rfl⟩ (fun Z0 ⟨hz,s0⟩ => ?_);have hB : Below w.heap.size w w:=BR;have hv0 : Below w.heap.size w w:=BR;have hg9 : g0 < w.heap.size:=World.block_lt_of_cell? _ _ b0;have hin : inB (D.length : Int) 1 7 = true:=inB_iff.2 (by omega);have Ya:=(Rp.nil hz).cons s0;clear hz s0
 refine Ya.t (.slice none 0 0) (ex_assign rfl rfl) fun _ Yb => ?_;clear Ya
 refine Yb.t (.int .i64 0) (ex_assign rfl rfl) fun _ Yc => ?_;clear Yb
 have hz:=Yc.z;have s0:=Yc.a 0 rfl;clear Yc;refine WE ?_
 go_upto_region 1 with fail
 refine WL ?_;have Yd:=(Rp.nil hz).cons s0;clear hz s0
 refine Yd.t _ (ex_move rfl (Yd.f 0)) fun _ Ye => ?_;clear Yd
 refine Ye.t _ (ex_lenVV9 rfl rfl (Ye.f 7)) fun _ Yf => ?_;clear Ye
 refine Yf.t (.bool false) (ex_bin rfl (Yf.f 8) rfl (eql20_9 _ _ _)) fun _ Yg => ?_;clear Yf
 refine Yg.t _ (ex_move rfl (Yg.f 9)) fun _ Yh => ?_;clear Yg
 refine vl true (.slice (some ⟨g0,0,none⟩) 2 2) (want_k rfl rfl (Yh.a 10 rfl)) (fun hc => ex_move rfl (Yh.f 0)) rfl Yh.z (by decide) (Yh.k fun Yi Yj => ?_);clear Yh;refine vl true (.pointer (some ⟨g0,0,none⟩)) (want_k rfl rfl (Yj.a 10 rfl)) (fun hc => ex_ix rfl (Yj.f 11) rfl (ixVV9 g0 _)) rfl Yj.z (by decide) (Yj.k fun Yk Yl => ?_);clear Yj;refine vl true (.slice a1 D.length c1) (want_k rfl rfl (Yl.a 10 rfl)) (fun hc => ex_ld rfl (Yl.f 12) (ldV8 b0)) rfl Yl.z (by decide) (Yl.k fun Ym Yn => ?_);clear Yl;refine vcall true (.bool (inB (D.length : Int) 1 7)) (want_k rfl rfl (Yn.a 10 rfl)) (fun hc => ex_call rfl (by simp only [LA,LB,LC,(Yn.f 13),evc] <;> rfl) rfl) (fun hc => maybe9 a1 D.length c1 w) rfl Yn.z (by decide) (Yn.kc fun Yo x1 hb Yp => ?_);clear Yn;have hx1:=hv0.trans (hb.mono hv0.size);clear hb;refine vl true (.bool (!(inB (D.length : Int) 1 7))) (want_k rfl rfl (Yp.a 10 rfl)) (fun hc => ex_not rfl (Yp.f 14)) rfl Yp.z (by decide) (Yp.k fun Yq Yr => ?_);clear Yp
 refine Yr.t (.bool (false || (!(inB (D.length : Int) 1 7)))) (ex_or rfl (Yr.a 10 rfl) (Yr.a 15 rfl) rfl) fun _ Ys => ?_;clear Yr
 have hz:=Ys.z;have s0:=Ys.a 0 rfl;have s16:=Ys.a 16 rfl;clear Ys;refine WE ?_
 go_upto_region 3 with fail
 refine wp_cond_false ((ev s16 rfl).trans (congrArg Value.bool (show ((false || (!(inB (D.length : Int) 1 7)))) = false by rw [hin];rfl))) ?_;clear s16;have hB:=hB.trans (hx1.mono (by omega));have b0:=cell8 b0 hx1;have b1:=cell8 b1 hx1;have h1:=h1.later hx1;have h2:=h2.later hx1;have zx:=hx1.size
 obtain ⟨wx,hwx⟩ : ∃ z,z = x1:=⟨_,rfl⟩
 rw [← hwx] at b0 b1 h1 h2 hB zx ⊢;clear hwx
 have hgx : ¬ g0 = wx.heap.size:=by omega
 go_upto_region 3 with fail
 refine WL ?_;have Yt:=(Rp.nil hz).cons s0;clear hz s0
 refine Yt.t _ (ex_move rfl (Yt.f 0)) fun _ Yu => ?_;clear Yt
 refine Yu.t _ (ex_ix rfl (Yu.f 17) rfl (ixVV9 g0 _)) fun _ Yv => ?_;clear Yu
 refine Yv.t _ (ex_ld rfl (Yv.f 18) (ldV8 b0)) fun _ Yw => ?_;clear Yv
 refine Yw.c (ex_call rfl (by simp only [LA,LB,LC,(Yw.f 19),evc] <;> rfl) rfl) (copiedV9 D a1 _ c1 wx h1 (by omega)) ?_;rintro e y1 ⟨rfl,oD,bD⟩;refine ⟨_,rfl,Yw.k fun Yx Yy => ?_⟩;clear Yw;have z1:=bD.size;have b1:=cell8 b1 bD
 have h2n : ∀ x,a2 = some x → x.block ≠ wx.heap.size:=fun x hx => by obtain ⟨q,o,e,hq,_⟩:=h2.place (by rintro rfl;simp at hl;omega);rw [e] at hx;cases hx;show q ≠ _;omega
 have h2:=h2.later bD;have hB:=hB.trans (bD.mono (by omega));have oD:=oD.low (B':=w.heap.size) (by omega)
 refine Yy.t _ (ex_assign rfl (Yy.f 20)) fun _ Yz => ?_;clear Yy
 have hz:=Yz.z;have s0:=Yz.a 0 rfl;have s4:=Yz.a 4 rfl;clear Yz;refine WE ?_
 go_upto_region 4 with fail
 refine WL ?_;have Y0:=((Rp.nil hz).cons s0).cons s4;clear hz s0 s4
 refine Y0.t _ (ex_move rfl (Y0.f 0)) fun _ Y1 => ?_;clear Y0
 refine Y1.t (.slice (some ⟨g0,1,none⟩) 1 1) (ex_slice9 rfl (Y1.f 21) rfl rfl rfl (slVV9 g0 _)) fun _ Y2 => ?_;clear Y1
 refine Y2.t _ (ex_lenVV9 rfl rfl (Y2.f 22)) fun _ Y3 => ?_;clear Y2
 refine Y3.t (.int .i64 0) (ex_move rfl rfl) fun _ Y4 => ?_;clear Y3
 have hz:=Y4.z;have s4:=Y4.a 4 rfl;have s22:=Y4.a 22 rfl;have s23:=Y4.a 23 rfl;have s24:=Y4.a 24 rfl;clear Y4;refine WE ?_;have hs24 : _ = some (gw true (.int .i64 ((0 : Nat) : Int))):=s24
 go_upto_region 5 with fail
 refine v_loop 24 1 (fun i T wr => T.size = 38∧T[4]? = some (gw true (.slice (some ⟨wx.heap.size,0,none⟩) D.length D.length))∧T[22]? = some (gw true (.slice (some ⟨g0,1,none⟩) 1 1))∧T[23]? = some (gw true (.int .i64 1))∧T[24]? = some (gw true (.int .i64 (i : Int)))∧Hid (OwnY yD w.heap.size wr (.slice (some ⟨wx.heap.size,0,none⟩) D.length D.length) (if i = 0 then D else jn9 D V)∧Upd (fun k => k = wx.heap.size) y1 wr)) (fun i T w h => h.2.2.2.2.1) ⟨hz,s4,s22,s23,hs24,by rw [if_pos rfl];exact oD,Upd.refl _ _⟩ ?_;clear hz s4 s22 s23 s24 hs24;intro i R0 wr hi hh;obtain ⟨hz,s4,s22,s23,s24,HJ⟩:=hh;obtain ⟨OW,UW⟩:=HJ.out;clear HJ hv0;have zw:=UW.size
 by_cases hit : i < 1
 ·obtain rfl : i = 0:=by omega
  have d1 : decide (((0 : Nat) : Int) < 1) = true:=rfl;rw [if_pos rfl] at OW
  go_upto_region 5 with fail
  refine WL ?_;have Y5:=((((Rp.nil hz).cons s4).cons s22).cons s23).cons s24;clear hz s4 s22 s23 s24
  refine Y5.t (.bool true) (ex_bin rfl (Y5.f 24) (Y5.f 23) (lssD8 _ _ _ _ true d1 _)) fun _ Y6 => ?_;clear Y5
  have hz:=Y6.z;have s4:=Y6.a 4 rfl;have s22:=Y6.a 22 rfl;have s23:=Y6.a 23 rfl;have s24:=Y6.a 24 rfl;have s25:=Y6.a 25 rfl;clear Y6;refine WE ?_
  go_upto_region 6 with fail
  refine wp_cond_true ((ev s25 rfl).trans rfl) ?_;clear s25 d1;have hg0 : g0 < y1.heap.size:=World.block_lt_of_cell? _ _ b1;have hg1 : ¬ g0 = wx.heap.size:=hgx;have b1:=(UW.cell (p:=⟨g0,1,none⟩) hg0 hg1).trans b1;have h2:=h2.upd UW (fun x hx _ => h2n x hx)
  go_upto_region 6 with fail
  refine WL ?_;have Y7:=((((Rp.nil hz).cons s4).cons s22).cons s23).cons s24;clear hz s4 s22 s23 s24
  refine Y7.t _ (ex_ix rfl (Y7.f 22) (Y7.f 24) (ixVV1_9 g0 _)) fun _ Y8 => ?_;clear Y7
  refine Y8.t _ (ex_ld rfl (Y8.f 26) (ldV8 b1)) fun _ Y9 => ?_;clear Y8
  refine Y9.t _ (ex_assign rfl (Y9.f 27)) fun _ Yba => ?_;clear Y9
  have hz:=Yba.z;have s4:=Yba.a 4 rfl;have s6:=Yba.a 6 rfl;have s22:=Yba.a 22 rfl;have s23:=Yba.a 23 rfl;have s24:=Yba.a 24 rfl;clear Yba;refine WE ?_
  go_upto_region 7 with fail
  refine WL ?_;have Ybb:=(((((Rp.nil hz).cons s4).cons s6).cons s22).cons s23).cons s24;clear hz s4 s6 s22 s23 s24
  refine Ybb.t _ (ex_move rfl (Ybb.f 6)) fun _ Ybc => ?_;clear Ybb
  refine Ybc.t _ (ex_lenV8 rfl rfl (Ybc.f 28)) fun _ Ybd => ?_;clear Ybc
  refine Ybd.t _ (ex_move rfl (Ybd.f 4)) fun _ Ybe => ?_;clear Ybd
  refine Ybe.t _ (ex_lenV8 rfl rfl (Ybe.f 30)) fun _ Ybf => ?_;clear Ybe
  refine Ybf.t (.bool false) (ex_bin rfl (Ybf.f 29) (Ybf.f 31) (neqE9 _ _ _ _ (by omega) _)) fun _ Ybg => ?_;clear Ybf
  have hz:=Ybg.z;have s4:=Ybg.a 4 rfl;have s6:=Ybg.a 6 rfl;have s22:=Ybg.a 22 rfl;have s23:=Ybg.a 23 rfl;have s24:=Ybg.a 24 rfl;have s32:=Ybg.a 32 rfl;clear Ybg;refine WE ?_
  go_upto_region 9 with fail
  refine wp_cond_false ((ev s32 rfl).trans rfl) ?_;clear s32
  go_upto_region 9 with fail
  refine WL ?_;have Ybh:=(((((Rp.nil hz).cons s4).cons s6).cons s22).cons s23).cons s24;clear hz s4 s6 s22 s23 s24
  refine Ybh.t _ (ex_move rfl (Ybh.f 4)) fun _ Ybi => ?_;clear Ybh
  refine Ybi.t _ (ex_move rfl (Ybi.f 6)) fun _ Ybj => ?_;clear Ybi
  refine Ybj.c (ex_call rfl (by simp only [LA,LB,LC,(Ybj.f 33),(Ybj.f 34),evc] <;> rfl) rfl) (raise9 D V w.heap.size wx.heap.size D.length a2 c2 wr OW h2 hl (by omega) h2n) ?_;rintro e y3 ⟨rfl,OJ,UJ⟩;refine ⟨_,rfl,Ybj.k fun Ybk Ybl => ?_⟩;clear Ybj;have hz:=Ybl.z;have s4:=Ybl.a 4 rfl;have s22:=Ybl.a 22 rfl;have s23:=Ybl.a 23 rfl;have s24:=Ybl.a 24 rfl;clear Ybl;refine WE ?_
  go_upto_region 10 with fail
  refine WL ?_;have Ybm:=((((Rp.nil hz).cons s4).cons s22).cons s23).cons s24;clear hz s4 s22 s23 s24
  refine Ybm.t (.int .i64 ((0 + 1 : Nat) : Int)) (ex_bin rfl (Ybm.f 24) rfl (addD8 _ _ _ 1 ((0 + 1 : Nat) : Int) (by rw [IntKind.wrap_i64];omega) _)) fun _ Ybn => ?_;clear Ybm
  refine Ybn.t _ (ex_move rfl (Ybn.f 36)) fun _ Ybo => ?_;clear Ybn
  have hz:=Ybo.z;have s4:=Ybo.a 4 rfl;have s22:=Ybo.a 22 rfl;have s23:=Ybo.a 23 rfl;have s24:=Ybo.a 24 rfl;clear Ybo;refine WE ?_
  exact ⟨_,rfl,by omega,hz,s4,s22,s23,s24,by rw [if_neg (by omega)];exact OJ,UW.trans UJ⟩
 ·have d1 : decide ((i : Int) < 1) = false:=decide_eq_false (by omega)
  rw [if_neg (by omega)] at OW
  go_upto_region 5 with fail
  refine WL ?_;have Ybp:=((((Rp.nil hz).cons s4).cons s22).cons s23).cons s24;clear hz s4 s22 s23 s24
  refine Ybp.t (.bool false) (ex_bin rfl (Ybp.f 24) (Ybp.f 23) (lssD8 _ _ _ _ false d1 _)) fun _ Ybq => ?_;clear Ybp
  have hz:=Ybq.z;have s4:=Ybq.a 4 rfl;have s25:=Ybq.a 25 rfl;clear Ybq;refine WE ?_
  go_upto_region 11 with fail
  refine wp_cond_false ((ev s25 rfl).trans rfl) ?_;clear s25 d1
  go_upto_region 11 with fail
  refine WL ?_;have Ybr:=(Rp.nil hz).cons s4;clear hz s4
  refine Ybr.t _ (ex_move rfl (Ybr.f 4)) fun _ Ybs => ?_;clear Ybr
  refine Ybs.t _ (ex_assign rfl (Ybs.f 37)) fun _ Ybt => ?_;clear Ybs
  refine Ybt.t (.int .i64 0) (ex_assign rfl rfl) fun _ Ybu => ?_;clear Ybt
  have hz:=Ybu.z;have s2:=Ybu.a 2 rfl;have s3:=Ybu.a 3 rfl;clear Ybu;refine WE ?_;have hB9:=hide (hB.trans (UW.below (by omega) (fun k hk => by omega)))
  go_wp2
  refine bodyPost_ret (results_two9 rfl (getD_of s2) (getD_of s3)) rfl ?_
  exact ⟨_,rfl,OW,hB9.out⟩
end Go.Proofs.YtpcgnjpodnebpaaGreatDoor
