import Derived.Test.YtpcgnjpodnebpaaGreatDoorG20
set_option maxRecDepth 100000
set_option linter.unusedVariables false
set_option linter.unusedSimpArgs false
set_option maxHeartbeats 8000000
namespace Go.Proofs.YtpcgnjpodnebpaaGreatDoor
open Go.ChangeShapes Go.WideShapes Go.ChangeAt Go.RowKit Go.Maps
open Classical
/-! Messages that came in. -/
theorem msCellsN : Tryz.prog.cellsOf 54 = 18:=by kernel_rfl
theorem msBytesN : Tryz.prog.bytesOf 54 = 192:=by kernel_rfl
theorem kdCellsN : Tryz.prog.cellsOf 43 = 1:=by kernel_rfl
theorem rsCellsN : Tryz.prog.cellsOf 49 = 3:=by kernel_rfl
theorem enCellsN : Tryz.prog.cellsOf 47 = 5:=by kernel_rfl
theorem open_rscN {H : Type} {enc : TypeId × Value → H} {W : World} {base : Nat} {sp : Nat → Bool} {held : Bool} {n : Nat} {cs : List Value} {x : DataW H × List MemPlace} (h : DataW.trod enc Tryz.prog W base sp held n 49 cs = some x) :
  ∃ r : Rs,cs = [.int .i64 r.1,.int .i64 r.2.1,.string r.2.2]:=by
 obtain ⟨xs,k,hk,hxy,hlen,hxl,hf⟩:=DataW.trod_struct Tryz.underlying49 h;rw [rsCellsN] at hlen;have hxl : xs.length = 3:=hxl
 match xs,hxl,cs,hlen with
 | [y0,y1,y2],_,[v0,v1,v2],_ =>
  have g0:=hf 0 _ rfl;have g1:=hf 1 _ rfl;have g2:=hf 2 _ rfl
  simp [intCells,strCells] at g0 g1 g2
  obtain ⟨K,hK,hx0,hw0⟩:=DataW.trod_int Tryz.underlying3 g0;obtain ⟨N,hN,hx2,hw2⟩:=DataW.trod_int Tryz.underlying3 g1;obtain ⟨t,hS,hx4,hw4⟩:=DataW.trod_string Tryz.underlying9 g2;refine ⟨(K,N,t),?_⟩;rw [(List.cons_eq_cons.1 hK).1,(List.cons_eq_cons.1 hN).1,(List.cons_eq_cons.1 hS).1]
theorem open_msgcN {H : Type} {enc : TypeId × Value → H} {W : World} {n : Nat} {cs : List Value} {x : DataW H × List MemPlace} (h : DataW.trod enc Tryz.prog W 0 (fun _ => true) true n 54 cs = some x)
  (hw : ∀ m,m ∈ x.1.weights Tryz.prog 54 → m ≤ reachBytes) : ∃ m : Ms9,(m.In W∧m.Fit)∧cs = yMs9.cs m:=by
 obtain ⟨xs,k,hk,hxy,hlen,hxl,hf⟩:=DataW.trod_struct Tryz.underlying54 h;rw [msCellsN] at hlen;have hxl : xs.length = 11:=hxl
 match xs,hxl,cs,hlen with
 | [y0,y1,y2,y3,y4,y5,y6,y7,y8,y9,y10],_,[v0,v1,v2,v3,v4,v5,v6,v7,v8,v9,v10,v11,v12,v13,v14,v15,v16,v17],_ =>
  have g0:=hf 0 _ rfl;have g1:=hf 1 _ rfl;have g2:=hf 2 _ rfl;have g3:=hf 3 _ rfl;have g4:=hf 4 _ rfl;have g5:=hf 5 _ rfl;have g6:=hf 6 _ rfl;have g7:=hf 7 _ rfl;have g8:=hf 8 _ rfl;have g9:=hf 9 _ rfl;have g10:=hf 10 _ rfl
  simp [intCells,kdCellsN,enCellsN,rsCellsN,drCells8,slCells8,veCells9] at g0 g1 g2 g3 g4 g5 g6 g7 g8 g9 g10
  obtain ⟨K,hK,_,wK⟩:=DataW.trod_int Tryz.underlying43 g0;obtain ⟨N,hN,_,wN⟩:=DataW.trod_int Tryz.underlying3 g1;obtain ⟨V,hV,_,wV⟩:=DataW.trod_int Tryz.underlying3 g2;obtain ⟨e,we,he⟩:=open_enc g3;obtain ⟨r,hr⟩:=open_rscN g4;obtain ⟨P,hP,_,wP⟩:=DataW.trod_int Tryz.underlying3 g5;obtain ⟨C,hC,_,wC⟩:=DataW.trod_int Tryz.underlying3 g6;obtain ⟨Ls,hLs,_,wLs⟩:=DataW.trod_int Tryz.underlying3 g7;obtain ⟨dx,dy,wdr,hdr⟩:=open_drc8 g8;have hd : x.1 = .agg ([y0,y1,y2,y3,y4,y5,y6,y7,y8,y9,y10].map Prod.fst):=congrArg Prod.fst hxy;obtain ⟨D9,P9⟩:=y9;obtain ⟨D10,P10x⟩:=y10
  haveI : Inhabited En:=⟨⟨0,0,⟨0,0,⟨#[]⟩⟩⟩⟩
  obtain ⟨s9,e16,hl9,hf9,hb9⟩:=log_of_trod g9 (fun k hk => hw k (by
   rw [hd];simp only [DataW.weights,Tryz.underlying54]
   exact DataW.weights_mem_each (j:=9) (t:=25) (d:=D9) rfl rfl k hk))
  obtain ⟨a10,n10,c10,e17,P10,hl10,hf10,hb10⟩:=rows_of_trod9 (Y:=yD) kD (fun d => (Lit.int .u64 d.1).wf = true∧(Lit.int .u64 d.2).wf = true) drCells8 drBytes8 (fun h _ => by
   obtain ⟨x,y,hxy,e⟩:=open_drc8 h
   exact ⟨(x,y),hxy,e⟩) g10 (fun k hk => hw k (by
   rw [hd];simp only [DataW.weights,Tryz.underlying54]
   exact DataW.weights_mem_each (j:=10) (t:=27) (d:=D10) rfl rfl k hk))
  obtain rfl : n10 = P10.length:=hl10.len.symm;refine ⟨⟨⟨K,N,V,e,r,P,C,Ls,(dx,dy)⟩,s9.a,s9.c,s9.D,a10,c10,P10⟩,⟨⟨hl9,hl10⟩,⟨hf9,we,by show s9.D.length * 48 ≤ _;omega,by show P10.length * 16 ≤ _;simp only [yD] at hb10;omega⟩⟩,?_⟩
  simp [En.cs] at hK hN hV he hr hP hC hLs hdr
  obtain ⟨q3,q4,q5,q6,q7⟩:=he;obtain ⟨q8,q9,q10⟩:=hr;obtain ⟨q14,q15⟩:=hdr;subst hK hN hV q3 q4 q5 q6 q7 q8 q9 q10 hP hC hLs q14 q15 e16 e17
  rfl
def CameMsN (W : World) (a : Option Addr) (n c : Nat) : Prop:=∃ L : List Ms9,SlY yMs9 W a n c L∧(∀ x ∈ L,x.In W∧x.Fit)∧n * 192 ≤ 140737488351232
theorem open_msgsN {H : Type} {enc : TypeId × Value → H} {W : World} {base : Nat} {v : Value} {d : DataW H} {p : List MemPlace} (hv : Value.okWide Tryz.prog W .any base 34 v) (h : DataW.Trod enc Tryz.prog W 0 (fun _ => true) true 34 v d p)
  (hw : ∀ m,m ∈ d.weights Tryz.prog 34 → m ≤ reachBytes) : ∃ a n c,v = .slice a n c∧CameMsN W a n c:=by
 haveI : Inhabited Ms9:=⟨zMs9⟩
 obtain ⟨a,n,c,rfl⟩:=okWide_slice Tryz.underlying34 hv;obtain ⟨fuel,h⟩:=h;simp only [Value.cells] at h;obtain ⟨a2,n2,c2,e,P,s,f,hb⟩:=rows_of_trod9 kMs9 (fun q : Ms9 => q.In W∧q.Fit) msCellsN msBytesN (fun h hw => open_msgcN h hw) h hw
 cases e
 exact ⟨a,n,c,rfl,P,s,f,hb⟩
theorem knows_came9 (c : Cg) (s : Sta) (a : Option Addr) (n k : Nat) (W : World) (h : s.Came W) (hm : CameMsN W a n k) (hT : Tab W) :
  Calls Tryz.prog 3 #[.agg #[.int .i64 c.F,.int .i64 c.R,.int .i64 c.P,.bool c.u],s.val,.slice a n k] W fun e w' => e = .returned (.bool true)∧Below W.heap.size W w':=by
 obtain ⟨L,hL,hf,hn⟩:=hm;have hl:=hL.len;subst hl
 exact knows9 c s L a k W h.inn h.fit h.hb1 h.hb2 hL (fun x hx => (hf x hx).1) (fun x hx => (hf x hx).2) hn hT
end Go.Proofs.YtpcgnjpodnebpaaGreatDoor
