import Derived.Test.YtjcedofmljkhfaaGreatDoorRows
import Derived.ChangeOld
import Derived.ProofKit
import Derived.OpenShut
import Derived.SizedLaws
import Derived.Lib.LaidTab
import Derived.MakeChecks
import Derived.Test.YtjcedofmljkhfaaGreatDoorF21
set_option maxRecDepth 100000
set_option linter.unusedVariables false
set_option linter.unusedSimpArgs false
namespace Go.Proofs.YtjcedofmljkhfaaGreatDoor
open Go.ChangeShapes Go.WideShapes Go.ChangeAt Go.RowKit Go.Maps
open Classical
theorem rows_of_trod9 {α : Type} [Inhabited α] {Y : Lay α} (K : Y.Ok) (F : α → Prop) (hT : Tryz.prog.cellsOf Y.T = Y.k) (hby : Tryz.prog.bytesOf Y.T = Y.by_) {H : Type} {enc : TypeId × Value → H} {W : World} {v : Value} {d : DataW H} {p : List MemPlace} {fuel : Nat}
  (hop : ∀ {m : Nat} {cs : List Value} {D : DataW H} {q : List MemPlace},DataW.trod enc Tryz.prog W 0 (fun _ => true) true m Y.T cs = some (D,q) → (∀ k,k ∈ D.weights Tryz.prog Y.T → k ≤ reachBytes) → ∃ e : α,F e∧cs = Y.cs e)
  (h : DataW.trod enc Tryz.prog W 0 (fun _ => true) true fuel Y.ST [v] = some (d,p)) (hw : ∀ m,m ∈ d.weights Tryz.prog Y.ST → m ≤ reachBytes) :
  ∃ a len cap,v = .slice a len cap∧∃ P : List α,SlY Y W a len cap P∧(∀ e ∈ P,F e)∧len * Y.by_ ≤ 140737488351232:=by
 rcases Go.Deep.open_slice K.und h with ⟨hcs,hx⟩ | ⟨y,n,c,m,k,D,Pl,hcs,hb,hl,hm,hmm,hx,hall⟩
 ·have e:=(List.cons_eq_cons.1 hcs).1
  exact ⟨none,0,0,e,[],⟨rfl,Nat.le_refl _,by unfold maxLen;omega,fun _ => ⟨rfl,rfl⟩,fun x hx => .inl rfl⟩,by simp,by omega⟩
 ·have e:=(List.cons_eq_cons.1 hcs).1
  refine ⟨some y,n,c,e,?_⟩
  have hlm : n ≤ m:=by rw [hmm];split <;> omega
  have hd:=congrArg Prod.fst hx
  dsimp only at hd
  have hsz : n * Y.by_ ≤ 140737488351232:=by
   have:=hw _ (by
    rw [hd];simp only [DataW.weights,K.und,hby]
    exact List.mem_cons_self)
   simp only [List.length_map,List.length_range,reachBytes] at this;rw [Nat.add_mul] at this
   omega
  have each : ∀ i,i < n → ∃ q : α,F q∧(∀ j,j < Y.k → W.cell? ((y.add (i * Y.k)).add j) = (Y.cs q)[j]?):=by
   intro i hi;obtain ⟨cs',h1,h2⟩:=hall i (by omega);rw [hT] at h1
   obtain ⟨q,hf,rfl⟩:=hop h2 (fun k hk => hw k (by
    rw [hd];simp only [DataW.weights,K.und]
    exact List.mem_cons_of_mem _ (List.mem_append_left _ (weights_in (List.mem_map_of_mem (List.mem_range.2 hi)) k hk))))
   obtain ⟨_,_,hcell⟩:=World.cells?_some h1
   exact ⟨q,hf,hcell⟩
  obtain ⟨q,hq⟩:=Go.Deep.choose_lt each;refine ⟨(List.range n).map q,⟨by simp,hl,hm,(fun e => by cases e),fun x hx => ?_⟩,?_,hsz⟩
  ·cases hx
   by_cases hn0 : n = 0
   ·subst hn0
    exact .inl rfl
   ·obtain ⟨b,o,s⟩:=y
    have z0:=(hq 0 (by omega)).2 0 K.kp;have z1:=z0.trans (List.getElem?_eq_getElem (by rw [K.len];exact K.kp));have hs:=World.cell?_spot z1
    obtain rfl : s = none:=by
     rw [Nat.zero_mul] at hs
     simpa [Addr.add] using hs
    refine .inr ⟨b,o,rfl,?_,fun i x hx j u hu => ?_⟩
    ·rw [Addr.add_lit,Addr.add_lit] at z1
     exact World.block_lt_of_cell? _ _ z1
    ·have hi : i < n:=by
      have:=(List.getElem?_eq_some_iff.1 hx).1
      simpa using this
     have e : q i = x:=by
      simp [hi] at hx
      exact hx
     subst e
     have hj : j < Y.k:=by have:=(List.getElem?_eq_some_iff.1 hu).1;rwa [K.len] at this
     have:=(hq i hi).2 j hj;rw [Addr.add_lit,Addr.add_lit] at this
     exact this.trans hu
  ·intro z hz
   obtain ⟨i,hi,rfl⟩:=List.mem_map.1 hz
   exact (hq i (List.mem_range.1 hi)).1
theorem staCells9 : Tryz.prog.cellsOf 33 = 12:=by kernel_rfl
theorem stuCells9 : Tryz.prog.cellsOf 24 = 1:=by kernel_rfl
theorem veCells9 : Tryz.prog.cellsOf 27 = 1:=by kernel_rfl
theorem aksCells9 : Tryz.prog.cellsOf 28 = 1:=by kernel_rfl
theorem mksCells9 : Tryz.prog.cellsOf 29 = 1:=by kernel_rfl
theorem blsCells9 : Tryz.prog.cellsOf 30 = 1:=by kernel_rfl
theorem ansCells9 : Tryz.prog.cellsOf 31 = 1:=by kernel_rfl
theorem akCells9 : Tryz.prog.cellsOf 54 = 4:=by kernel_rfl
theorem akBytes9 : Tryz.prog.bytesOf 54 = 32:=by kernel_rfl
theorem mkCells9 : Tryz.prog.cellsOf 56 = 3:=by kernel_rfl
theorem mkBytes9 : Tryz.prog.bytesOf 56 = 24:=by kernel_rfl
theorem open_mkc9 {H : Type} {enc : TypeId × Value → H} {W : World} {base : Nat} {sp : Nat → Bool} {held : Bool} {n : Nat} {cs : List Value} {x : DataW H × List MemPlace} (h : DataW.trod enc Tryz.prog W base sp held n 56 cs = some x) : ∃ e : Mk,((Lit.int .i64 e.n).wf = true∧(Lit.int .u64 e.h).wf = true∧(Lit.int .u64 e.l).wf = true)∧cs = yMkA.cs e:=by
 obtain ⟨xs,k,hk,hxy,hlen,hxl,hf⟩:=DataW.trod_struct Tryz.underlying56 h;rw [mkCells9] at hlen;have hxl : xs.length = 2:=hxl
 match xs,hxl,cs,hlen with
 | [y0,y1],_,[v0,v1,v2],_ =>
  have g0:=hf 0 _ rfl;have g1:=hf 1 _ rfl
  simp [intCells,drCells8] at g0 g1
  obtain ⟨N,hN,_,wN⟩:=DataW.trod_int Tryz.underlying3 g0;obtain ⟨a,b,⟨wa,wb⟩,hdr⟩:=open_drc8 g1;refine ⟨⟨N,a,b⟩,⟨wN,wa,wb⟩,?_⟩
  simp at hN hdr
  obtain ⟨h1,h2⟩:=hdr;subst hN h1 h2
  rfl
theorem open_akc9 {H : Type} {enc : TypeId × Value → H} {W : World} {base : Nat} {sp : Nat → Bool} {held : Bool} {n : Nat} {cs : List Value} {x : DataW H × List MemPlace} (h : DataW.trod enc Tryz.prog W base sp held n 54 cs = some x) : ∃ e : Ak,((Lit.int .i64 e.n).wf = true∧(Lit.int .u64 e.h).wf = true∧(Lit.int .u64 e.l).wf = true∧(Lit.int .i64 e.p).wf = true)∧cs = yAkA.cs e:=by
 obtain ⟨xs,k,hk,hxy,hlen,hxl,hf⟩:=DataW.trod_struct Tryz.underlying54 h;rw [akCells9] at hlen;have hxl : xs.length = 3:=hxl
 match xs,hxl,cs,hlen with
 | [y0,y1,y2],_,[v0,v1,v2,v3],_ =>
  have g0:=hf 0 _ rfl;have g1:=hf 1 _ rfl;have g2:=hf 2 _ rfl
  simp [intCells,drCells8] at g0 g1 g2
  obtain ⟨N,hN,_,wN⟩:=DataW.trod_int Tryz.underlying3 g0;obtain ⟨a,b,⟨wa,wb⟩,hdr⟩:=open_drc8 g1;obtain ⟨Q,hQ,_,wQ⟩:=DataW.trod_int Tryz.underlying3 g2;refine ⟨⟨N,a,b,Q⟩,⟨wN,wa,wb,wQ⟩,?_⟩
  simp at hN hdr hQ
  obtain ⟨h1,h2⟩:=hdr;subst hN h1 h2 hQ
  rfl
structure Sta.Came (W : World) (s : Sta) : Prop where
 inn : s.In W
 fit : s.Fit
 hb1 : ∀ x ∈ s.B,x.s.D.length * 48 ≤ 140737488351232
 hb2 : ∀ x ∈ s.N,x.s.D.length * 48 ≤ 140737488351232
 w0 : (Lit.int .i64 s.self).wf = true
 w1 : (Lit.int .i64 s.st).wf = true
 w2 : (Lit.int .i64 s.view).wf = true
 w3 : (Lit.int .i64 s.last).wf = true
 w5 : (Lit.int .i64 s.commit).wf = true
 w7 : (Lit.int .i64 s.idle).wf = true
 wv : ∀ d ∈ s.V,(Lit.int .u64 d.1).wf = true∧(Lit.int .u64 d.2).wf = true
 wa : ∀ e ∈ s.A,(Lit.int .i64 e.n).wf = true∧(Lit.int .u64 e.h).wf = true∧(Lit.int .u64 e.l).wf = true∧(Lit.int .i64 e.p).wf = true
 wm : ∀ e ∈ s.M,(Lit.int .i64 e.n).wf = true∧(Lit.int .u64 e.h).wf = true∧(Lit.int .u64 e.l).wf = true
 wb : ∀ x ∈ s.B,x.fits W
 wn : ∀ x ∈ s.N,x.fits W
theorem open_state9 {H : Type} {enc : TypeId × Value → H} {W : World} {base : Nat} {v : Value} {d : DataW H} {p : List MemPlace} (hv : Value.okWide Tryz.prog W .any base 33 v) (h : DataW.Trod enc Tryz.prog W 0 (fun _ => true) true 33 v d p)
  (hw : ∀ m,m ∈ d.weights Tryz.prog 33 → m ≤ reachBytes) : ∃ s : Sta,v = s.val∧s.Came W:=by
 haveI : Inhabited Bl:=⟨⟨0,0,0,0,0,⟨none,0,[]⟩⟩⟩
 haveI : Inhabited An:=⟨⟨0,0,0,0,0,⟨none,0,[]⟩⟩⟩
 haveI : Inhabited Ak:=⟨⟨0,0,0,0⟩⟩
 haveI : Inhabited Mk:=⟨⟨0,0,0⟩⟩
 haveI : Inhabited En:=⟨⟨0,0,⟨0,0,⟨#[]⟩⟩⟩⟩
 obtain ⟨cs,rfl,hsz⟩:=okWide_struct Tryz.underlying33 hv;obtain ⟨fuel,hf⟩:=h;obtain ⟨xs,k,hk,hxy,hlen,hxl,hf⟩:=DataW.trod_struct Tryz.underlying33 hf;rw [staCells9] at hlen;have hxl : xs.length = 12:=hxl;simp only [Value.cells] at hlen hf;obtain ⟨l⟩:=cs
 match xs,hxl,l,hlen with
 | [y0,y1,y2,y3,y4,y5,y6,y7,y8,y9,y10,y11],_,[v0,v1,v2,v3,v4,v5,v6,v7,v8,v9,v10,v11],_ =>
  have hd : d = .agg ([y0,y1,y2,y3,y4,y5,y6,y7,y8,y9,y10,y11].map Prod.fst):=congrArg Prod.fst hxy
  have wg : ∀ (j : Nat) (t : TypeId) (x : DataW H),[3,24,3,3,25,3,27,3,28,29,30,31][j]? = some t → ([y0,y1,y2,y3,y4,y5,y6,y7,y8,y9,y10,y11].map Prod.fst)[j]? = some x → ∀ k,k ∈ x.weights Tryz.prog t → k ≤ reachBytes:=fun j t x ht hx k hk => hw k (by
   rw [hd];simp only [DataW.weights,Tryz.underlying33]
   exact DataW.weights_mem_each (j:=j) (t:=t) ht hx k hk)
  have g0:=hf 0 _ rfl;have g1:=hf 1 _ rfl;have g2:=hf 2 _ rfl;have g3:=hf 3 _ rfl;have g4:=hf 4 _ rfl;have g5:=hf 5 _ rfl;have g6:=hf 6 _ rfl;have g7:=hf 7 _ rfl;have g8:=hf 8 _ rfl;have g9:=hf 9 _ rfl;have g10:=hf 10 _ rfl;have g11:=hf 11 _ rfl
  simp [intCells,stuCells9,slCells8,veCells9,aksCells9,mksCells9,blsCells9,ansCells9] at g0 g1 g2 g3 g4 g5 g6 g7 g8 g9 g10 g11
  obtain ⟨z0,e0,_,c0⟩:=DataW.trod_int Tryz.underlying3 g0;obtain ⟨z1,e1,_,c1⟩:=DataW.trod_int Tryz.underlying24 g1;obtain ⟨z2,e2,_,c2⟩:=DataW.trod_int Tryz.underlying3 g2;obtain ⟨z3,e3,_,c3⟩:=DataW.trod_int Tryz.underlying3 g3;obtain ⟨z5,e5,_,c5⟩:=DataW.trod_int Tryz.underlying3 g5;obtain ⟨z7,e7,_,c7⟩:=DataW.trod_int Tryz.underlying3 g7;obtain ⟨s4,e4,hl4,hf4,hb4⟩:=log_of_trod g4 (wg 4 _ _ rfl rfl)
  obtain ⟨a6,n6,c6,e6,P6,hl6,hf6,hb6⟩:=rows_of_trod9 (Y:=yD) kD (fun d => (Lit.int .u64 d.1).wf = true∧(Lit.int .u64 d.2).wf = true) drCells8 drBytes8 (fun h _ => by
   obtain ⟨x,y,hxy,e⟩:=open_drc8 h
   exact ⟨(x,y),hxy,e⟩) g6 (wg 6 _ _ rfl rfl)
  obtain ⟨a8,n8,c8,e8,P8,hl8,hf8,hb8⟩:=rows_of_trod9 (Y:=yAkA) kAkA _ akCells9 akBytes9 (fun h _ => open_akc9 h) g8 (wg 8 _ _ rfl rfl);obtain ⟨a9,n9,c9,e9,P9,hl9,hf9,hb9⟩:=rows_of_trod9 (Y:=yMkA) kMkA _ mkCells9 mkBytes9 (fun h _ => open_mkc9 h) g9 (wg 9 _ _ rfl rfl);obtain ⟨a10,n10,c10,e10,P10,hl10,hf10,hb10⟩:=rows_of_trod9 (Y:=yBlA) kBlA (fun e => e.fits W) cellsBl bytesBl (fun h hw => open_elBl h hw) g10 (wg 10 _ _ rfl rfl);obtain ⟨a11,n11,c11,e11,P11,hl11,hf11,hb11⟩:=rows_of_trod9 (Y:=yAnA) kAnA (fun e => e.fits W) cellsAn bytesAn (fun h hw => open_elAn h hw) g11 (wg 11 _ _ rfl rfl)
  simp at e0 e1 e2 e3 e5 e7
  subst e0 e1 e2 e3 e4 e5 e6 e7 e8 e9 e10 e11;obtain rfl : n6 = P6.length:=hl6.len.symm;obtain rfl : n8 = P8.length:=hl8.len.symm;obtain rfl : n9 = P9.length:=hl9.len.symm;obtain rfl : n10 = P10.length:=hl10.len.symm;obtain rfl : n11 = P11.length:=hl11.len.symm;refine ⟨⟨z0,z1,z2,z3,s4.a,s4.c,s4.D,z5,a6,c6,P6,z7,a8,c8,P8,a9,c9,P9,a10,c10,P10,a11,c11,P11⟩,rfl,?_⟩
  exact ⟨⟨hl4,hl6,hl8,hl9,hl10,hl11,fun x hx => (hf10 x hx).In,fun x hx => (hf11 x hx).In⟩,⟨hf4,fun x hx => (hf10 x hx).ew,fun x hx => (hf11 x hx).ew,by show s4.D.length * 48 ≤ _;omega,by show P6.length * 16 ≤ _;simp only [yD] at hb6;omega,by show P8.length * 32 ≤ _;simp only [yAkA] at hb8;omega,by show P9.length * 24 ≤ _;simp only [yMkA] at hb9;omega,by show P10.length * 64 ≤ _;simp only [yBlA] at hb10;omega,by show P11.length * 64 ≤ _;simp only [yAnA] at hb11;omega⟩,fun x hx => (hf10 x hx).bw,fun x hx => (hf11 x hx).bw,c0,c1,c2,c3,c5,c7,hf6,hf8,hf9,hf10,hf11⟩
end Go.Proofs.YtjcedofmljkhfaaGreatDoor
namespace Go.Proofs.YtjcedofmljkhfaaGreatDoor
open Go.RowKit Go.Maps Go.WideShapes Go.ChangeShapes
open Classical
theorem gTab : Tryz.prog.globalNamed "amnesia/message.table" = some 0 := by kernel_rfl
theorem gTabT : (Tryz.prog.globals[0]?).map (·.type) = some 88:=by kernel_rfl
theorem cellsRow : Tryz.prog.cellsOf 87 = 10:=by kernel_rfl
theorem cellsRule : Tryz.prog.cellsOf 86 = 1:=by kernel_rfl
theorem undTab : Tryz.prog.underlying 88 = some (.array 15 87):=by kernel_rfl
theorem undRow : Tryz.prog.underlying 87 = some (.array 10 86):=by kernel_rfl
theorem undRule : Tryz.prog.underlying 86 = some (.int .u8):=by kernel_rfl
theorem tab_of_laid7 {W : World} (h : laidMetH Tryz.prog [("amnesia/message.table", Rows.laid_amnesia_message_table)] W) : Tab W := by
 rw [MakeChecks.laidMetH_plain _ _ _ (by kernel_rfl)] at h;obtain ⟨ps,⟨g',t',cs,fuel,p,q,hg',ht',hvar,hd,_,_⟩,_⟩:=h;obtain rfl:=Option.some.inj (gTab.symm.trans hg');obtain rfl:=Option.some.inj (gTabT.symm.trans ht');obtain ⟨xs,m,_,hx,hl,hxl,hall⟩:=DataW.trod_array undTab hd
 have e : (Rows.laid_amnesia_message_table : DataW Unit) = .agg ((List.range 15).map fun k => Lib.tabData .u8 ((List.range 10).map fun j => (tabA k j : Int))):=by kernel_rfl
 have hxs : xs.map (·.1) = (List.range 15).map fun k => (Lib.tabData .u8 ((List.range 10).map fun j => (tabA k j : Int)) : DataW Unit):=by
  have h1:=congrArg Prod.fst hx;rw [e] at h1
  exact (DataW.agg.inj h1).symm
 have row : ∀ k,k < 15 → (cs.toList.drop (k * 10)).take 10 = ((List.range 10).map fun j => (tabA k j : Int)).map fun z => Value.int .u8 z:=by
  intro k hk;have h1:=hall k hk;rw [cellsRow] at h1
  obtain ⟨x,hx⟩ : ∃ x,xs[k]? = some x:=⟨_,List.getElem?_eq_getElem (by omega)⟩
  rw [hx] at h1
  have h2 : x.1 = (Lib.tabData .u8 ((List.range 10).map fun j => (tabA k j : Int)) : DataW Unit):=by
   have h3:=congrArg (fun l => l[k]?) hxs;simp only [List.getElem?_map,hx,Option.map_some,List.getElem?_range hk] at h3
   exact Option.some.inj h3
  obtain ⟨d,pp⟩:=x;subst h2
  exact Lib.cells_of_tab undRow undRule cellsRule cellsRow h1
 have cell : ∀ k j,k < 15 → j < 10 → W.cell? ⟨0,k * 10 + j,none⟩ = some (.int .u8 (tabA k j : Int)):=by
  intro k j hk hj;have h1:=World.var?_cell gTab hvar (k * 10 + j);rw [h1];have h2:=congrArg (fun l => l[j]?) (row k hk);simp only [List.getElem?_take_of_lt hj,List.getElem?_drop,List.getElem?_map,List.getElem?_range hj,Option.map_some,Array.getElem?_toList] at h2
  exact h2
 refine ⟨?_,cell⟩;have h0:=cell 0 0 (by decide) (by decide)
 apply Nat.pos_of_ne_zero
 intro hz;have : W.heap[0]? = none:=Array.getElem?_eq_none (by omega)
 simp [World.cell?,this] at h0
end Go.Proofs.YtjcedofmljkhfaaGreatDoor
namespace Go.Proofs.YtjcedofmljkhfaaGreatDoor
open Go.ChangeShapes Go.WideShapes Go.ChangeAt Go.RowKit Go.Maps
open Classical
/-! A message that came in by value. -/
theorem msCells9 : Tryz.prog.cellsOf 45 = 18:=by kernel_rfl
theorem kdCells9 : Tryz.prog.cellsOf 34 = 1:=by kernel_rfl
theorem rsCells9 : Tryz.prog.cellsOf 40 = 3:=by kernel_rfl
theorem enCells9 : Tryz.prog.cellsOf 38 = 5:=by kernel_rfl
def CameM9 (W : World) (m : Mg) (a1 : Option Addr) (n1 c1 : Nat) (a2 : Option Addr) (n2 c2 : Nat) : Prop:=∃ x : Ms9,m.val (.slice a1 n1 c1) (.slice a2 n2 c2) = x.val∧x.In W∧x.Fit
theorem open_rscM9 {H : Type} {enc : TypeId × Value → H} {W : World} {base : Nat} {sp : Nat → Bool} {held : Bool} {n : Nat} {cs : List Value} {x : DataW H × List MemPlace} (h : DataW.trod enc Tryz.prog W base sp held n 40 cs = some x) :
  ∃ r : Rs,cs = [.int .i64 r.1,.int .i64 r.2.1,.string r.2.2]:=by
 obtain ⟨xs,k,hk,hxy,hlen,hxl,hf⟩:=DataW.trod_struct Tryz.underlying40 h;rw [rsCells9] at hlen;have hxl : xs.length = 3:=hxl
 match xs,hxl,cs,hlen with
 | [y0,y1,y2],_,[v0,v1,v2],_ =>
  have g0:=hf 0 _ rfl;have g1:=hf 1 _ rfl;have g2:=hf 2 _ rfl
  simp [intCells,strCells] at g0 g1 g2
  obtain ⟨K,hK,hx0,hw0⟩:=DataW.trod_int Tryz.underlying3 g0;obtain ⟨N,hN,hx2,hw2⟩:=DataW.trod_int Tryz.underlying3 g1;obtain ⟨t,hS,hx4,hw4⟩:=DataW.trod_string Tryz.underlying9 g2;refine ⟨(K,N,t),?_⟩;rw [(List.cons_eq_cons.1 hK).1,(List.cons_eq_cons.1 hN).1,(List.cons_eq_cons.1 hS).1]
set_option maxHeartbeats 2000000 in
theorem open_msg9 {H : Type} {enc : TypeId × Value → H} {W : World} {base : Nat} {v : Value} {d : DataW H} {p : List MemPlace} (hv : Value.okWide Tryz.prog W .any base 45 v) (h : DataW.Trod enc Tryz.prog W 0 (fun _ => true) true 45 v d p)
  (hw : ∀ m,m ∈ d.weights Tryz.prog 45 → m ≤ reachBytes) :
  ∃ (m : Mg) (a1 : Option Addr) (n1 c1 : Nat) (a2 : Option Addr) (n2 c2 : Nat),v = m.val (.slice a1 n1 c1) (.slice a2 n2 c2)∧CameM9 W m a1 n1 c1 a2 n2 c2:=by
 obtain ⟨cs,rfl,hsz⟩:=okWide_struct Tryz.underlying45 hv;rw [msCells9] at hsz;obtain ⟨l⟩:=cs;obtain ⟨fuel,hf⟩:=h;obtain ⟨xs,k,hk,hxy,hlen,hxl,hf⟩:=DataW.trod_struct Tryz.underlying45 hf;have hxl : xs.length = 11:=hxl
 match xs,hxl,l,hsz with
 | [y0,y1,y2,y3,y4,y5,y6,y7,y8,y9,y10],_,[v0,v1,v2,v3,v4,v5,v6,v7,v8,v9,v10,v11,v12,v13,v14,v15,v16,v17],_ =>
  have g0:=hf 0 _ rfl;have g1:=hf 1 _ rfl;have g2:=hf 2 _ rfl;have g3:=hf 3 _ rfl;have g4:=hf 4 _ rfl;have g5:=hf 5 _ rfl;have g6:=hf 6 _ rfl;have g7:=hf 7 _ rfl;have g8:=hf 8 _ rfl;have g9:=hf 9 _ rfl;have g10:=hf 10 _ rfl
  simp [Value.cells,intCells,kdCells9,enCells9,rsCells9,drCells8,slCells8,veCells9] at g0 g1 g2 g3 g4 g5 g6 g7 g8 g9 g10
  obtain ⟨K,hK,_,wK⟩:=DataW.trod_int Tryz.underlying34 g0;obtain ⟨N,hN,_,wN⟩:=DataW.trod_int Tryz.underlying3 g1;obtain ⟨V,hV,_,wV⟩:=DataW.trod_int Tryz.underlying3 g2;obtain ⟨e,we,he⟩:=open_enc g3;obtain ⟨r,hr⟩:=open_rscM9 g4;obtain ⟨P,hP,_,wP⟩:=DataW.trod_int Tryz.underlying3 g5;obtain ⟨C,hC,_,wC⟩:=DataW.trod_int Tryz.underlying3 g6;obtain ⟨Ls,hLs,_,wLs⟩:=DataW.trod_int Tryz.underlying3 g7;obtain ⟨dx,dy,wdr,hdr⟩:=open_drc8 g8;have hd : d = .agg ([y0,y1,y2,y3,y4,y5,y6,y7,y8,y9,y10].map Prod.fst):=congrArg Prod.fst hxy
  haveI : Inhabited En:=⟨⟨0,0,⟨0,0,⟨#[]⟩⟩⟩⟩
  obtain ⟨s9,e16,hl9,hf9,hb9⟩:=log_of_trod g9 (fun k hk => hw k (by
   rw [hd];simp only [DataW.weights,Tryz.underlying45]
   exact DataW.weights_mem_each (j:=9) (t:=25) rfl rfl k hk))
  obtain ⟨a10,n10,c10,e17,P10,hl10,hf10,hb10⟩:=rows_of_trod9 (Y:=yD) kD (fun d => (Lit.int .u64 d.1).wf = true∧(Lit.int .u64 d.2).wf = true) drCells8 drBytes8 (fun h _ => by
   obtain ⟨x,y,hxy,e⟩:=open_drc8 h
   exact ⟨(x,y),hxy,e⟩) g10 (fun k hk => hw k (by
   rw [hd];simp only [DataW.weights,Tryz.underlying45]
   exact DataW.weights_mem_each (j:=10) (t:=27) rfl rfl k hk))
  obtain rfl : n10 = P10.length:=hl10.len.symm;refine ⟨⟨K,N,V,e,r,P,C,Ls,(dx,dy)⟩,s9.a,s9.D.length,s9.c,a10,P10.length,c10,?_,⟨⟨K,N,V,e,r,P,C,Ls,(dx,dy)⟩,s9.a,s9.c,s9.D,a10,c10,P10⟩,rfl,⟨hl9,hl10⟩,⟨hf9,we,by show s9.D.length * 48 ≤ _;omega,by show P10.length * 16 ≤ _;simp only [yD] at hb10;omega⟩⟩
  simp [En.cs] at hK hN hV he hr hP hC hLs hdr
  obtain ⟨q3,q4,q5,q6,q7⟩:=he;obtain ⟨q8,q9,q10⟩:=hr;obtain ⟨q14,q15⟩:=hdr;subst hK hN hV q3 q4 q5 q6 q7 q8 q9 q10 hP hC hLs q14 q15 e16 e17
  rfl
theorem voices_came9 (c : Cg) (s : Sta) (m : Mg) (a1 : Option Addr) (n1 c1 : Nat) (a2 : Option Addr) (n2 c2 : Nat) (W : World) (h : s.Came W) (hm : CameM9 W m a1 n1 c1 a2 n2 c2) (hT : Tab W) :
  Calls Tryz.prog 3 #[.agg #[.int .i64 c.F,.int .i64 c.R,.int .i64 c.P,.bool c.u],s.val,m.val (.slice a1 n1 c1) (.slice a2 n2 c2)] W fun e w' => e = .returned (.bool true)∧Below W.heap.size W w':=by
 obtain ⟨x,e,hI,hF⟩:=hm;rw [e]
 exact voicesL9 c s x W h.inn h.fit hI hF hT
end Go.Proofs.YtjcedofmljkhfaaGreatDoor
