import Derived.Test.YtpcgnjpodnebpaaGreatDoorG8
set_option maxRecDepth 100000
set_option linter.unusedVariables false
set_option linter.unusedSimpArgs false
set_option maxHeartbeats 8000000
namespace Go.Proofs.YtpcgnjpodnebpaaGreatDoor
open Go.RowKit Go.Maps Go.Shelf
open Classical
structure Fr8 {α : Type} (Y : Lay α) (B : Nat) (w : World) (a : Option Addr) (n c : Nat) (l : List α) : Prop where
 sl : SlY Y w a n c l
 lo : ∀ x,a = some x → B ≤ x.block
section
variable {α : Type} {Y : Lay α} {B : Nat} {w w' : World} {a : Option Addr} {n c : Nat} {l : List α}
theorem Fr8.later (h : Fr8 Y B w a n c l) (hb : Below w.heap.size w w') : Fr8 Y B w' a n c l:=⟨h.sl.later hb,h.lo⟩
theorem Fr8.set {q : Nat} (h : Fr8 Y B w a n c l) (u : Upd (fun k => k = q) w w') (hq : q < B) : Fr8 Y B w' a n c l:=⟨h.sl.upd u (fun x hx _ => by have:=h.lo x hx;omega),h.lo⟩
theorem Fr8.of_own {B' : Nat} (K : Y.Ok) (h : OwnY Y B' w (.slice a n c) l) (hB : B ≤ B') : Fr8 Y B w a n c l:=by
 refine ⟨h.sl' K,fun x hx => ?_⟩;obtain ⟨va,vc,e,h1,h2,h3,h4⟩:=h.form
 injection e with e1 e2 e3
 subst e1;obtain ⟨g,rfl,h5,h6⟩:=h4 x hx
 exact Nat.le_trans hB h5
end
theorem Bl.Tolds.set8 {B q : Nat} {w w' : World} {L R : List Bl} (h : Bl.Tolds B w L R) (u : Upd (fun k => k = q) w w') (hq : q < B) : Bl.Tolds B w' L R :=
 ⟨h.1,fun i x y hx hy => by
  obtain ⟨h0,g,e,o⟩:=h.2 i x y hx hy
  exact ⟨h0,g,e,o.upd1 u (fun k hk e => by have:=(o.blk k hk).1;omega)⟩⟩
theorem An.Tolds.set8 {B q : Nat} {w w' : World} {L R : List An} (h : An.Tolds B w L R) (u : Upd (fun k => k = q) w w') (hq : q < B) : An.Tolds B w' L R :=
 ⟨h.1,fun i x y hx hy => by
  obtain ⟨h0,g,e,o⟩:=h.2 i x y hx hy
  exact ⟨h0,g,e,o.upd1 u (fun k hk e => by have:=(o.blk k hk).1;omega)⟩⟩
theorem Bl.Tolds.in8 {B : Nat} {w : World} {L R : List Bl} (h : Bl.Tolds B w L R) : ∀ y ∈ R,y.In w:=fun y hy => by
 obtain ⟨i,hi,rfl⟩:=List.mem_iff_getElem.1 hy
 have hl : i < L.length:=by rw [← h.1];exact hi
 exact (h.2 i _ _ (List.getElem?_eq_getElem hl) (List.getElem?_eq_getElem hi)).In
theorem An.Tolds.in8 {B : Nat} {w : World} {L R : List An} (h : An.Tolds B w L R) : ∀ y ∈ R,y.In w:=fun y hy => by
 obtain ⟨i,hi,rfl⟩:=List.mem_iff_getElem.1 hy
 have hl : i < L.length:=by rw [← h.1];exact hi
 exact (h.2 i _ _ (List.getElem?_eq_getElem hl) (List.getElem?_eq_getElem hi)).In
def zS8 : Sta:=⟨0,0,0,0,none,0,[],0,none,0,[],0,none,0,[],none,0,[],none,0,[],none,0,[]⟩
theorem al12 (w : World) : (Instr.alloc 33 true (.tuple #[])).run Tryz.prog w = .ok (.pointer (some ⟨w.heap.size,0,none⟩)) (w.alloc (.cells zS8.cs.toArray 33)):=by
 go_simp
 first | done | rfl
theorem bd12 (w : World) : (Instr.build 33 #[]).run Tryz.prog w = .ok zS8.val w:=by
 go_simp
 first | done | rfl
theorem st12 {w : World} {q : Nat} {s : Sta} (h : SB7 w q s) (t : Sta) : (Instr.storeAt 33 (.pointer (some ⟨q,0,none⟩)) t.val).run Tryz.prog w = .ok () (sets w q 0 t.cs):=by
 have:=run_storeAt_mid (P:=Tryz.prog) w q 0 33 t.cs.toArray (fun j hj => ⟨by rw [Nat.zero_add,h.cell j _ (List.getElem?_eq_getElem (show j < s.cs.length from hj))];rfl,by rw [Nat.zero_add];exact h.free j⟩) (by kernel_rfl) (all_oneCell_toArray (by
  intro v hv;simp only [Sta.cs,List.mem_cons,List.not_mem_nil,or_false] at hv
  rcases hv with rfl | rfl | rfl | rfl | rfl | rfl | rfl | rfl | rfl | rfl | rfl | rfl <;> rfl))
 rw [setCells_sets] at this
 exact this
theorem SB7.put {w : World} {q : Nat} {s : Sta} (h : SB7 w q s) (t : Sta) : SB7 (sets w q 0 t.cs) q t:=by
 refine ⟨by rw [size_sets];exact h.lt,fun i x hx => ?_,fun i => sets_free _ _ _ (h.free i)⟩;have:=sets_at (b:=q) t.cs 0 w (fun k hk => ⟨_,by rw [Nat.zero_add];exact h.cell k _ (List.getElem?_eq_getElem (show k < s.cs.length from hk))⟩) i x hx;rw [Nat.zero_add] at this
 exact this
theorem upd12 (w : World) (q : Nat) (t : Sta) : Upd (fun k => k = q) w (sets w q 0 t.cs):=upd_sets (S:=fun k => k = q) (b:=q) rfl _ _ _ (Upd.refl _ _)
theorem results_sta {fn : Func} {i : Tmp} {q : Nat} {t : Sta} {tmps : Array Value} {w : World} (h : fn.results = #[.cell i 33]) (hq : tmps.getD i undef = .pointer (some ⟨q,0,none⟩)) (hb : SB7 w q t) : (results fn tmps).run Tryz.prog w = .ok t.val w:=by
 have:=run_loadVar_mid (P:=Tryz.prog) w q 0 33 t.cs _ (fun j v hv => by rw [Nat.zero_add];exact hb.cell j v hv) Tryz.underlying33 rfl (by kernel_rfl);simp only [results,h];simp only [Array.getD_eq_getD_getElem?] at hq
 simp [Sem.run_bind,Result.andThen,hq,asAddr,this]
 rfl
theorem results_sta3 {fn : Func} {i j k : Tmp} {q : Nat} {t : Sta} {x y : Value} {tmps : Array Value} {w : World} (h : fn.results = #[.cell i 33,.tmp j,.tmp k]) (hq : tmps.getD i undef = .pointer (some ⟨q,0,none⟩)) (hj : tmps.getD j undef = x) (hk : tmps.getD k undef = y) (hb : SB7 w q t) : (results fn tmps).run Tryz.prog w = .ok (.tuple #[t.val,x,y]) w:=by
 have:=run_loadVar_mid (P:=Tryz.prog) w q 0 33 t.cs _ (fun j v hv => by rw [Nat.zero_add];exact hb.cell j v hv) Tryz.underlying33 rfl (by kernel_rfl);simp only [results,h];simp only [Array.getD_eq_getD_getElem?] at hq hj hk
 simp [Sem.run_bind,Result.andThen,hq,hj,hk,asAddr,this]
 rfl
structure Sta.Lo (t : Sta) (B : Nat) : Prop where
 l : ∀ x,t.la = some x → B ≤ x.block
 v : ∀ x,t.va = some x → B ≤ x.block
 a : ∀ x,t.ka = some x → B ≤ x.block
 m : ∀ x,t.ma = some x → B ≤ x.block
 b : ∀ x,t.ba = some x → B ≤ x.block
 n : ∀ x,t.na = some x → B ≤ x.block
theorem Sta.Lo.low {t : Sta} {B B' : Nat} (h : t.Lo B) (hB : B' ≤ B) : t.Lo B':=⟨fun x hx => Nat.le_trans hB (h.l x hx),fun x hx => Nat.le_trans hB (h.v x hx),fun x hx => Nat.le_trans hB (h.a x hx),fun x hx => Nat.le_trans hB (h.m x hx),fun x hx => Nat.le_trans hB (h.b x hx),fun x hx => Nat.le_trans hB (h.n x hx)⟩
structure Sta.Kn (t : Sta) (B : Nat) (s : Sta) (D : List (Int × Int)) (w : World) : Prop where
 self : t.self = s.self
 st : t.st = s.st
 view : t.view = s.view
 last : t.last = s.last
 commit : t.commit = s.commit
 idle : t.idle = s.idle
 l : t.L = s.L
 v : t.V = D
 a : t.A = Ak.prn s.A D
 m : t.M = Mk.prn s.M D
 b : Bl.Tolds B w (Bl.prn s.B D) t.B
 n : An.Tolds B w (An.prn s.N D) t.N
 inn : t.In w
theorem Sta.Kn.set8 {t : Sta} {B q : Nat} {s : Sta} {D : List (Int × Int)} {w w' : World} (h : t.Kn B s D w) (u : Upd (fun k => k = q) w w') (hq : q < B) (hlo : t.Lo B) : t.Kn B s D w' :=
 ⟨h.self,h.st,h.view,h.last,h.commit,h.idle,h.l,h.v,h.a,h.m,h.b.set8 u hq,h.n.set8 u hq,⟨h.inn.l.upd u (fun x hx _ => by have:=hlo.l x hx;omega),h.inn.v.upd u (fun x hx _ => by have:=hlo.v x hx;omega),h.inn.a.upd u (fun x hx _ => by have:=hlo.a x hx;omega),h.inn.m.upd u (fun x hx _ => by have:=hlo.m x hx;omega),h.inn.b.upd u (fun x hx _ => by have:=hlo.b x hx;omega),h.inn.n.upd u (fun x hx _ => by have:=hlo.n x hx;omega),(h.b.set8 u hq).in8,(h.n.set8 u hq).in8⟩⟩
theorem Sta.Kn.low8 {t : Sta} {B B' : Nat} {s : Sta} {D : List (Int × Int)} {w : World} (h : t.Kn B s D w) (hB : B' ≤ B) : t.Kn B' s D w :=
 ⟨h.self,h.st,h.view,h.last,h.commit,h.idle,h.l,h.v,h.a,h.m,h.b.low hB,h.n.low hB,h.inn⟩
theorem stE8 {w : World} {q i : Nat} {z : Value} (h : w.cell? ⟨q,i,none⟩ = some z) (hf : w.frozen? ⟨q,i,none⟩ = false) (a : Option Addr) (n c : Nat) : (Instr.storeAt 25 (.pointer (some ⟨q,i,none⟩)) (.slice a n c)).run Tryz.prog w = .ok () (w.setCell ⟨q,i,none⟩ (.slice a n c)):=by go_simp
theorem stV8 {w : World} {q i : Nat} {z : Value} (h : w.cell? ⟨q,i,none⟩ = some z) (hf : w.frozen? ⟨q,i,none⟩ = false) (a : Option Addr) (n c : Nat) : (Instr.storeAt 27 (.pointer (some ⟨q,i,none⟩)) (.slice a n c)).run Tryz.prog w = .ok () (w.setCell ⟨q,i,none⟩ (.slice a n c)):=by go_simp
theorem stK8 {w : World} {q i : Nat} {z : Value} (h : w.cell? ⟨q,i,none⟩ = some z) (hf : w.frozen? ⟨q,i,none⟩ = false) (a : Option Addr) (n c : Nat) : (Instr.storeAt 28 (.pointer (some ⟨q,i,none⟩)) (.slice a n c)).run Tryz.prog w = .ok () (w.setCell ⟨q,i,none⟩ (.slice a n c)):=by go_simp
theorem stM8 {w : World} {q i : Nat} {z : Value} (h : w.cell? ⟨q,i,none⟩ = some z) (hf : w.frozen? ⟨q,i,none⟩ = false) (a : Option Addr) (n c : Nat) : (Instr.storeAt 29 (.pointer (some ⟨q,i,none⟩)) (.slice a n c)).run Tryz.prog w = .ok () (w.setCell ⟨q,i,none⟩ (.slice a n c)):=by go_simp
theorem stB8 {w : World} {q i : Nat} {z : Value} (h : w.cell? ⟨q,i,none⟩ = some z) (hf : w.frozen? ⟨q,i,none⟩ = false) (a : Option Addr) (n c : Nat) : (Instr.storeAt 30 (.pointer (some ⟨q,i,none⟩)) (.slice a n c)).run Tryz.prog w = .ok () (w.setCell ⟨q,i,none⟩ (.slice a n c)):=by go_simp
theorem stN8 {w : World} {q i : Nat} {z : Value} (h : w.cell? ⟨q,i,none⟩ = some z) (hf : w.frozen? ⟨q,i,none⟩ = false) (a : Option Addr) (n c : Nat) : (Instr.storeAt 31 (.pointer (some ⟨q,i,none⟩)) (.slice a n c)).run Tryz.prog w = .ok () (w.setCell ⟨q,i,none⟩ (.slice a n c)):=by go_simp
theorem freshE8 (D : List En) (a : Option Addr) (n c : Nat) (w : World) (h : SlY yE w a n c D) (hb : n * 48 ≤ 281474976710656) :
  Calls Tryz.prog 58 #[.slice a n c] w fun e w' => e = .returned (.slice (some ⟨w.heap.size,0,none⟩) n n)∧OwnY yE w.heap.size w' (.slice (some ⟨w.heap.size,0,none⟩) n n) D∧Below w.heap.size w w':=by
 have hmx:=h.max;have hcp:=h.cap;have hln:=h.len
 unfold maxLen at hmx
 have H:=hide h;have HN:=hide hln;clear h hln
 go_enter Tryz.func58,Tryz.ntmps58
 go_wp2_with (at_make;go_must (refine makeYs kE _ rfl (.tmp 5) rfl n rfl (by unfold maxLen;omega) hb ?zk))
 intro w1 o1 b1;have O1:=hide o1;have B1:=hide b1;have H1:=hide (H.out.later b1);have z1:=b1.size;clear o1 b1
 go_wp2_with (refine copyYc kE _ rfl (.tmp 7) (.tmp 8) 25 rfl w.heap.size w.heap.size n n 0 n n c n a _ D (by rfl) rfl O1.out H1.out (by omega) LR ?zm)
 intro w2 o2 u2 z2
 have hp : put (List.replicate n yE.z) 0 D = D:=by
  unfold put
  rw [List.take_zero,List.nil_append,List.drop_of_length_le (by rw [List.length_replicate,HN.out];omega),List.append_nil]
 rw [hp] at o2;have O2:=hide o2;have B2:=hide (B1.out.trans (u2.below z1 (fun k e => by subst e;exact LR)));clear o2 u2 hp
 go_wp2
 go_ret
 exact ⟨rfl,O2.out,B2.out⟩
theorem freshV8 (D : List (Int × Int)) (a : Option Addr) (n c : Nat) (w : World) (h : SlY yD w a n c D) (hb : n * 16 ≤ 281474976710656) :
  Calls Tryz.prog 59 #[.slice a n c] w fun e w' => e = .returned (.slice (some ⟨w.heap.size,0,none⟩) n n)∧OwnY yD w.heap.size w' (.slice (some ⟨w.heap.size,0,none⟩) n n) D∧Below w.heap.size w w':=by
 have hmx:=h.max;have hcp:=h.cap;have hln:=h.len
 unfold maxLen at hmx
 have H:=hide h;have HN:=hide hln;clear h hln
 go_enter Tryz.func59,Tryz.ntmps59
 go_wp2_with (at_make;go_must (refine makeYs kD _ rfl (.tmp 5) rfl n rfl (by unfold maxLen;omega) hb ?zk))
 intro w1 o1 b1;have O1:=hide o1;have B1:=hide b1;have H1:=hide (H.out.later b1);have z1:=b1.size;clear o1 b1
 go_wp2_with (refine copyYc kD _ rfl (.tmp 7) (.tmp 8) 27 rfl w.heap.size w.heap.size n n 0 n n c n a _ D (by rfl) rfl O1.out H1.out (by omega) LR ?zm)
 intro w2 o2 u2 z2
 have hp : put (List.replicate n yD.z) 0 D = D:=by
  unfold put
  rw [List.take_zero,List.nil_append,List.drop_of_length_le (by rw [List.length_replicate,HN.out];omega),List.append_nil]
 rw [hp] at o2;have O2:=hide o2;have B2:=hide (B1.out.trans (u2.below z1 (fun k e => by subst e;exact LR)));clear o2 u2 hp
 go_wp2
 go_ret
 exact ⟨rfl,O2.out,B2.out⟩
theorem knowing8 (s : Sta) (av : Option Addr) (cv : Nat) (D : List (Int × Int)) (w : World) (hI : s.In w) (hF : s.Fit) (hD : SlY yD w av D.length cv D) (hDl : D.length * 16 ≤ 140737488351232) : Calls Tryz.prog 29 #[s.val,.slice av D.length cv] w fun e w' => ∃ t : Sta,e = .returned t.val∧t.Kn w.heap.size s D w'∧t.Lo w.heap.size∧Below w.heap.size w w':=by
 go_enter Tryz.func29,Tryz.ntmps29
 go_upto_region 0 with fail
 refine WL ?_;refine vl_gen (fun T => T.size = 33∧T[0]? = some (gw true (s.val))∧T[1]? = some (gw true (.slice av D.length cv))) ⟨rfl,rfl,rfl⟩ (fun Z0 ⟨hz,s0,s1⟩ => ?_)
 obtain ⟨w1,hw1⟩ : ∃ y,y = w.alloc (.cells s.cs.toArray 33):=⟨_,rfl⟩
 have hb : Below w.heap.size w w1:=by rw [hw1];exact BR.alloc LR _
 have hs1 : w1.heap.size = w.heap.size + 1:=by rw [hw1];simp
 have HS : SB7 w1 (w.heap.size) s:=by rw [hw1];exact BX7.new _ _ _
 refine vw (.pointer (some ⟨w.heap.size,0,none⟩)) w1 WN (ex_box8 rfl (ev s0 rfl) (by rw [hw1];exact bxS7 _ _)) rfl hz (by decide) (fun Z1 zz kk s2x => ?_);replace s1:=ku s1;clear kk hz s0 hw1;have hz:=zz;have s2:=s2x;clear zz s2x;have hB:=hb;clear hb;have hv0 : Below w1.heap.size w1 w1:=BR
 obtain ⟨w2,hw2⟩ : ∃ y,y = w1.alloc (.cells zS8.cs.toArray 33):=⟨_,rfl⟩
 have hb : Below w1.heap.size w1 w2:=by rw [hw2];exact BR.alloc LR _
 have HZ : SB7 w2 (w.heap.size + 1) zS8:=by rw [hw2,← hs1];exact BX7.new _ _ _
 have hz2 : w2.heap.size = w.heap.size + 2:=by rw [hw2];simp;omega
 have Ya:=((Rp.nil hz).cons s1).cons s2;clear hz s1 s2;refine vw (.pointer (some ⟨w.heap.size + 1,0,none⟩)) w2 WN (ex_al rfl (by rw [hw2,← hs1];exact al12 _)) rfl Ya.z (by decide) (Ya.k fun Yb Yc => ?_);clear Ya;have hz:=Yc.z;have s1:=Yc.a 1 rfl;have s2:=Yc.a 2 rfl;have s4:=Yc.a 4 rfl;clear Yc;refine WE ?_;have hB2 : Below w.heap.size w w2:=hB.trans (hb.mono (by omega));have HS:=HS.bel hb;clear hb hw2 hv0 hB;have hB:=hB2;clear hB2;have f1:=hF.ll;have f2:=hF.al;have f3:=hF.ml;have f4:=hF.bl;have f5:=hF.nl;have hzB : w2.heap.size ≤ w2.heap.size:=LR
 go_upto_region 1 with fail
 refine WL ?_;have Yd:=(((Rp.nil hz).cons s1).cons s2).cons s4;clear hz s1 s2 s4
 refine Yd.t _ (ex_fa rfl (Yd.f 2) (faS4 _ _)) fun _ Ye => ?_;clear Yd
 refine Ye.t _ (ex_ld rfl (Ye.f 5) (ldE8 (HS.cell 4 _ rfl))) fun _ Yf => ?_;clear Ye
 refine Yf.c (ex_call rfl (by simp only [LA,LB,LC,(Yf.f 6),evc] <;> rfl) rfl) (freshE8 s.L s.la _ s.lc w2 (hI.later hB).l (by omega)) ?_;rintro e x1 ⟨rfl,oL,bL⟩;refine ⟨_,rfl,Yf.k fun Yg Yh => ?_⟩;clear Yf;have HS:=HS.bel bL;have HZ:=HZ.bel bL;have hB:=hB.trans (bL.mono (by omega));have hzB:=Nat.le_trans hzB bL.size;clear bL;have pL:=Fr8.of_own (B:=w2.heap.size) kE oL LR;clear oL
 refine Yh.t _ (ex_move rfl (Yh.f 1)) fun _ Yi => ?_;clear Yh
 refine Yi.c (ex_call rfl (by simp only [LA,LB,LC,(Yi.f 8),evc] <;> rfl) rfl) (freshV8 D av _ cv x1 (hD.later hB) (by omega)) ?_;rintro e x2 ⟨rfl,oV,bV⟩;refine ⟨_,rfl,Yi.k fun Yj Yk => ?_⟩;clear Yi;have pV:=Fr8.of_own (B:=w2.heap.size) kD oV hzB;have HS:=HS.bel bV;have HZ:=HZ.bel bV;have hB:=hB.trans (bV.mono (by omega));have pL:=pL.later bV;have hzB:=Nat.le_trans hzB bV.size;clear bV;clear oV
 refine Yk.t _ (ex_fa rfl (Yk.f 2) (faS4 _ _)) fun _ Yl => ?_;clear Yk
 refine vs (x2.setCell ⟨w.heap.size,4,none⟩ (.slice (some ⟨w2.heap.size,0,none⟩) s.L.length s.L.length)) WN (ex_st rfl (Yl.f 10) (Yl.f 7) (stE8 (HS.cell 4 _ rfl) (HS.free 4) _ _ _)) rfl ?_;have US : Upd (fun k => k = w.heap.size) x2 (x2.setCell ⟨w.heap.size,4,none⟩ (.slice (some ⟨w2.heap.size,0,none⟩) s.L.length s.L.length)):=(Upd.refl (fun k => k = w.heap.size) _).setCell (p:=⟨w.heap.size,4,none⟩) (.inl rfl) _;have HSn:=HS.set (j:=4) (by simp [Sta.cs]) (.slice (some ⟨w2.heap.size,0,none⟩) s.L.length s.L.length)
 obtain ⟨y1,hy1⟩ : ∃ v,v = (x2.setCell ⟨w.heap.size,4,none⟩ (.slice (some ⟨w2.heap.size,0,none⟩) s.L.length s.L.length)):=⟨_,rfl⟩
 rw [← hy1] at US HSn ⊢;clear hy1 HS;have HS : SB7 y1 (w.heap.size) { s with la:=some ⟨w2.heap.size,0,none⟩,lc:=s.L.length }:=HSn;clear HSn;have HZ:=HZ.upd US (by show ¬ w.heap.size + 1 = w.heap.size;omega);have hB:=hB.trans (US.below hB.size (fun k hk => by omega));have pL:=pL.set US (by omega);have pV:=pV.set US (by omega);have hzB:=Nat.le_trans hzB US.size;clear US
 refine Yl.t _ (ex_fa rfl (Yl.f 2) (faS6 _ _)) fun _ Ym => ?_;clear Yl
 refine vs (y1.setCell ⟨w.heap.size,6,none⟩ (.slice (some ⟨x1.heap.size,0,none⟩) D.length D.length)) WN (ex_st rfl (Ym.f 11) (Ym.f 9) (stV8 (HS.cell 6 _ rfl) (HS.free 6) _ _ _)) rfl ?_;have US : Upd (fun k => k = w.heap.size) y1 (y1.setCell ⟨w.heap.size,6,none⟩ (.slice (some ⟨x1.heap.size,0,none⟩) D.length D.length)):=(Upd.refl (fun k => k = w.heap.size) _).setCell (p:=⟨w.heap.size,6,none⟩) (.inl rfl) _;have HSn:=HS.set (j:=6) (by simp [Sta.cs]) (.slice (some ⟨x1.heap.size,0,none⟩) D.length D.length)
 obtain ⟨y2,hy2⟩ : ∃ v,v = (y1.setCell ⟨w.heap.size,6,none⟩ (.slice (some ⟨x1.heap.size,0,none⟩) D.length D.length)):=⟨_,rfl⟩
 rw [← hy2] at US HSn ⊢;clear hy2 HS;have HS : SB7 y2 (w.heap.size) { s with la:=some ⟨w2.heap.size,0,none⟩,lc:=s.L.length,va:=some ⟨x1.heap.size,0,none⟩,vc:=D.length,V:=D }:=HSn;clear HSn;have HZ:=HZ.upd US (by show ¬ w.heap.size + 1 = w.heap.size;omega);have hB:=hB.trans (US.below hB.size (fun k hk => by omega));have pL:=pL.set US (by omega);have pV:=pV.set US (by omega);have hzB:=Nat.le_trans hzB US.size;clear US;have hz:=Ym.z;have s1:=Ym.a 1 rfl;have s2:=Ym.a 2 rfl;have s4:=Ym.a 4 rfl;clear Ym;refine WE ?_;have hb : Below y2.heap.size y2 y2.drew:=BR.drew;have HS0:=HS;have hS:=hb;have HS:=HS.bel hb;have HZ:=HZ.bel hb;have hB:=hB.trans (hb.mono (by omega));have pL:=pL.later hb;have pV:=pV.later hb;have hzB:=Nat.le_trans hzB hb.size;clear hb
 go_upto_region 2 with fail
 refine vg_start (fun k => k == 9 || k == 11) (fun v => Below y2.heap.size y2 v) (by kernel_rfl) ?_;have Yn:=(((Rp.nil hz).cons s1).cons s2).cons s4;clear hz s1 s2 s4;refine vg_takeW 0 true (.pointer (some ⟨w.heap.size,8,none⟩)) rfl (by kernel_rfl) (by kernel_rfl) (by kernel_rfl) (by kernel_rfl) WN (fun hc v => ex_fa rfl (Yn.f 2) (faS8 _ _)) rfl Yn.z (by decide) (fun _ => hS) (Yn.k fun Yo Yp => ?_);clear Yn;refine vg_take 1 true (.slice s.ka s.A.length s.kc) rfl (by kernel_rfl) (by kernel_rfl) (by kernel_rfl) (by kernel_rfl) (by kernel_rfl) (by kernel_rfl) WN (fun hc v hv => ex_ld rfl (Yp.f 12) (ldK8 (cell8 (HS0.cell 8 _ rfl) hv))) rfl Yp.z (by decide) hS (Yp.k fun Yq Yr => ?_);clear Yp;refine vg_takeW 2 true (.slice av D.length cv) rfl (by kernel_rfl) (by kernel_rfl) (by kernel_rfl) (by kernel_rfl) WN (fun hc v => ex_move rfl (Yr.f 1)) rfl Yr.z (by decide) (fun _ => hS) (Yr.k fun Ys Yt => ?_);clear Yr;refine vg_takeW 4 true (.pointer (some ⟨w.heap.size,9,none⟩)) rfl (by kernel_rfl) (by kernel_rfl) (by kernel_rfl) (by kernel_rfl) WN (fun hc v => ex_fa rfl (Yt.f 2) (faS9 _ _)) rfl Yt.z (by decide) (fun _ => hS) (Yt.k fun Yu Yv => ?_);clear Yt;refine vg_take 5 true (.slice s.ma s.M.length s.mc) rfl (by kernel_rfl) (by kernel_rfl) (by kernel_rfl) (by kernel_rfl) (by kernel_rfl) (by kernel_rfl) WN (fun hc v hv => ex_ld rfl (Yv.f 16) (ldM8 (cell8 (HS0.cell 9 _ rfl) hv))) rfl Yv.z (by decide) hS (Yv.k fun Yw Yx => ?_);clear Yv;refine vg_takeW 6 true (.slice av D.length cv) rfl (by kernel_rfl) (by kernel_rfl) (by kernel_rfl) (by kernel_rfl) WN (fun hc v => ex_move rfl (Yx.f 1)) rfl Yx.z (by decide) (fun _ => hS) (Yx.k fun Yy Yz => ?_);clear Yx;refine vg_call 3 rfl (by kernel_rfl) WN (ex_call rfl (by simp only [LA,LB,LC,(Yz.f 13),(Yz.f 14),evc] <;> rfl) rfl) (Ak.Prune_any s.A D s.ka av _ s.kc _ cv y2.drew (hI.later hB).a (hD.later hB) (by omega)) rfl Yz.z (by decide) ?_;rintro e z1 ⟨vAk,rfl,oAk,bAk⟩;obtain ⟨aAk,cAk,rfl,_,_⟩:=oAk.sl kAkA;have hS:=hS.trans (bAk.mono hS.size);refine ⟨_,rfl,hS,Yz.k fun Y0 Y1 => ?_⟩;clear Yz;have pAk:=Fr8.of_own (B:=w2.heap.size) kAkA oAk hzB;have HS:=HS.bel bAk;have HZ:=HZ.bel bAk;have hB:=hB.trans (bAk.mono (by omega));have pL:=pL.later bAk;have pV:=pV.later bAk;have hzB:=Nat.le_trans hzB bAk.size;clear bAk;clear oAk;refine vg_takeW 8 true (.pointer (some ⟨w.heap.size,8,none⟩)) rfl (by kernel_rfl) (by kernel_rfl) (by kernel_rfl) (by kernel_rfl) WN (fun hc v => ex_fa rfl (Y1.f 2) (faS8 _ _)) rfl Y1.z (by decide) (fun _ => hS) (Y1.k fun Y2 Y3 => ?_);clear Y1;refine vg_call 7 rfl (by kernel_rfl) WN (ex_call rfl (by simp only [LA,LB,LC,(Y3.f 17),(Y3.f 18),evc] <;> rfl) rfl) (Mk.Prune_any s.M D s.ma av _ s.mc _ cv z1 (hI.later hB).m (hD.later hB) (by omega)) rfl Y3.z (by decide) ?_;rintro e z2 ⟨vMk,rfl,oMk,bMk⟩;obtain ⟨aMk,cMk,rfl,_,_⟩:=oMk.sl kMkA;have hS:=hS.trans (bMk.mono hS.size);refine ⟨_,rfl,hS,Y3.k fun Y4 Y5 => ?_⟩;clear Y3;have pMk:=Fr8.of_own (B:=w2.heap.size) kMkA oMk hzB;have HS:=HS.bel bMk;have HZ:=HZ.bel bMk;have hB:=hB.trans (bMk.mono (by omega));have pL:=pL.later bMk;have pV:=pV.later bMk;have pAk:=pAk.later bMk;have hzB:=Nat.le_trans hzB bMk.size;clear bMk;clear oMk;refine vg_store 9 (z2.setCell ⟨w.heap.size,8,none⟩ (.slice aAk (Ak.prn s.A D).length cAk)) rfl (by kernel_rfl) (by kernel_rfl) WN (ex_st rfl (Y5.f 20) (Y5.f 15) (stK8 (HS.cell 8 _ rfl) (HS.free 8) _ _ _)) rfl ?_;have US : Upd (fun k => k = w.heap.size) z2 (z2.setCell ⟨w.heap.size,8,none⟩ (.slice aAk (Ak.prn s.A D).length cAk)):=(Upd.refl (fun k => k = w.heap.size) _).setCell (p:=⟨w.heap.size,8,none⟩) (.inl rfl) _;have HSn:=HS.set (j:=8) (by simp [Sta.cs]) (.slice aAk (Ak.prn s.A D).length cAk)
 obtain ⟨u1,hu1⟩ : ∃ v,v = (z2.setCell ⟨w.heap.size,8,none⟩ (.slice aAk (Ak.prn s.A D).length cAk)):=⟨_,rfl⟩
 rw [← hu1] at US HSn ⊢;clear hu1 HS;have HS : SB7 u1 (w.heap.size) { s with la:=some ⟨w2.heap.size,0,none⟩,lc:=s.L.length,va:=some ⟨x1.heap.size,0,none⟩,vc:=D.length,V:=D,ka:=aAk,kc:=cAk,A:=Ak.prn s.A D }:=HSn;clear HSn;have HZ:=HZ.upd US (by show ¬ w.heap.size + 1 = w.heap.size;omega);have hB:=hB.trans (US.below hB.size (fun k hk => by omega));have pL:=pL.set US (by omega);have pV:=pV.set US (by omega);have pAk:=pAk.set US (by omega);have pMk:=pMk.set US (by omega);have hzB:=Nat.le_trans hzB US.size;clear US;refine vg_takeW 10 true (.pointer (some ⟨w.heap.size,9,none⟩)) rfl (by kernel_rfl) (by kernel_rfl) (by kernel_rfl) (by kernel_rfl) WN (fun hc v => ex_fa rfl (Y5.f 2) (faS9 _ _)) rfl Y5.z (by decide) (late_no 9 (by kernel_rfl)) (Y5.k fun Y6 Y7 => ?_);clear Y5;refine vg_store 11 (u1.setCell ⟨w.heap.size,9,none⟩ (.slice aMk (Mk.prn s.M D).length cMk)) rfl (by kernel_rfl) (by kernel_rfl) WN (ex_st rfl (Y7.f 21) (Y7.f 19) (stM8 (HS.cell 9 _ rfl) (HS.free 9) _ _ _)) rfl ?_;have US : Upd (fun k => k = w.heap.size) u1 (u1.setCell ⟨w.heap.size,9,none⟩ (.slice aMk (Mk.prn s.M D).length cMk)):=(Upd.refl (fun k => k = w.heap.size) _).setCell (p:=⟨w.heap.size,9,none⟩) (.inl rfl) _;have HSn:=HS.set (j:=9) (by simp [Sta.cs]) (.slice aMk (Mk.prn s.M D).length cMk)
 obtain ⟨u2,hu2⟩ : ∃ v,v = (u1.setCell ⟨w.heap.size,9,none⟩ (.slice aMk (Mk.prn s.M D).length cMk)):=⟨_,rfl⟩
 rw [← hu2] at US HSn ⊢;clear hu2 HS;have HS : SB7 u2 (w.heap.size) { s with la:=some ⟨w2.heap.size,0,none⟩,lc:=s.L.length,va:=some ⟨x1.heap.size,0,none⟩,vc:=D.length,V:=D,ka:=aAk,kc:=cAk,A:=Ak.prn s.A D,ma:=aMk,mc:=cMk,M:=Mk.prn s.M D }:=HSn;clear HSn;have HZ:=HZ.upd US (by show ¬ w.heap.size + 1 = w.heap.size;omega);have hB:=hB.trans (US.below hB.size (fun k hk => by omega));have pL:=pL.set US (by omega);have pV:=pV.set US (by omega);have pAk:=pAk.set US (by omega);have pMk:=pMk.set US (by omega);have hzB:=Nat.le_trans hzB US.size;clear US;have hz:=Y7.z;have s1:=Y7.a 1 rfl;have s2:=Y7.a 2 rfl;have s4:=Y7.a 4 rfl;clear Y7;refine vg_done (by kernel_rfl) ?_;clear HS0 hS;have hb : Below u2.heap.size u2 u2.drew:=BR.drew;have HS0:=HS;have hS:=hb;have HS:=HS.bel hb;have HZ:=HZ.bel hb;have hB:=hB.trans (hb.mono (by omega));have pL:=pL.later hb;have pV:=pV.later hb;have pAk:=pAk.later hb;have pMk:=pMk.later hb;have hzB:=Nat.le_trans hzB hb.size;clear hb
 go_upto_region 3 with fail
 refine vg_start (fun k => k == 9 || k == 11) (fun v => Below u2.heap.size u2 v) (by kernel_rfl) ?_;have Y8:=(((Rp.nil hz).cons s1).cons s2).cons s4;clear hz s1 s2 s4;refine vg_takeW 0 true (.pointer (some ⟨w.heap.size,10,none⟩)) rfl (by kernel_rfl) (by kernel_rfl) (by kernel_rfl) (by kernel_rfl) WN (fun hc v => ex_fa rfl (Y8.f 2) (faS10 _ _)) rfl Y8.z (by decide) (fun _ => hS) (Y8.k fun Y9 Yba => ?_);clear Y8;refine vg_take 1 true (.slice s.ba s.B.length s.bc) rfl (by kernel_rfl) (by kernel_rfl) (by kernel_rfl) (by kernel_rfl) (by kernel_rfl) (by kernel_rfl) WN (fun hc v hv => ex_ld rfl (Yba.f 22) (ldB8 (cell8 (HS0.cell 10 _ rfl) hv))) rfl Yba.z (by decide) hS (Yba.k fun Ybb Ybc => ?_);clear Yba;refine vg_takeW 2 true (.slice av D.length cv) rfl (by kernel_rfl) (by kernel_rfl) (by kernel_rfl) (by kernel_rfl) WN (fun hc v => ex_move rfl (Ybc.f 1)) rfl Ybc.z (by decide) (fun _ => hS) (Ybc.k fun Ybd Ybe => ?_);clear Ybc;refine vg_takeW 4 true (.pointer (some ⟨w.heap.size,11,none⟩)) rfl (by kernel_rfl) (by kernel_rfl) (by kernel_rfl) (by kernel_rfl) WN (fun hc v => ex_fa rfl (Ybe.f 2) (faS11 _ _)) rfl Ybe.z (by decide) (fun _ => hS) (Ybe.k fun Ybf Ybg => ?_);clear Ybe;refine vg_take 5 true (.slice s.na s.N.length s.nc) rfl (by kernel_rfl) (by kernel_rfl) (by kernel_rfl) (by kernel_rfl) (by kernel_rfl) (by kernel_rfl) WN (fun hc v hv => ex_ld rfl (Ybg.f 26) (ldN8 (cell8 (HS0.cell 11 _ rfl) hv))) rfl Ybg.z (by decide) hS (Ybg.k fun Ybh Ybi => ?_);clear Ybg;refine vg_takeW 6 true (.slice av D.length cv) rfl (by kernel_rfl) (by kernel_rfl) (by kernel_rfl) (by kernel_rfl) WN (fun hc v => ex_move rfl (Ybi.f 1)) rfl Ybi.z (by decide) (fun _ => hS) (Ybi.k fun Ybj Ybk => ?_);clear Ybi;refine vg_call 3 rfl (by kernel_rfl) WN (ex_call rfl (by simp only [LA,LB,LC,(Ybk.f 23),(Ybk.f 24),evc] <;> rfl) rfl) (Bl.Prune_any s.B D s.ba av _ s.bc _ cv u2.drew (hI.later hB).b (hD.later hB) (hI.later hB).bl (by omega)) rfl Ybk.z (by decide) ?_;rintro e z3 ⟨vBl,RBl,rfl,oBl,tBl,bBl⟩;obtain ⟨aBl,cBl,rfl,_,_⟩:=oBl.sl kBlA;have hS:=hS.trans (bBl.mono hS.size);refine ⟨_,rfl,hS,Ybk.k fun Ybl Ybm => ?_⟩;clear Ybk;have pBl:=Fr8.of_own (B:=w2.heap.size) kBlA oBl hzB;have tBl:=tBl.low (B':=w2.heap.size) hzB;have HS:=HS.bel bBl;have HZ:=HZ.bel bBl;have hB:=hB.trans (bBl.mono (by omega));have pL:=pL.later bBl;have pV:=pV.later bBl;have pAk:=pAk.later bBl;have pMk:=pMk.later bBl;have hzB:=Nat.le_trans hzB bBl.size;clear bBl;clear oBl;refine vg_takeW 8 true (.pointer (some ⟨w.heap.size,10,none⟩)) rfl (by kernel_rfl) (by kernel_rfl) (by kernel_rfl) (by kernel_rfl) WN (fun hc v => ex_fa rfl (Ybm.f 2) (faS10 _ _)) rfl Ybm.z (by decide) (fun _ => hS) (Ybm.k fun Ybn Ybo => ?_);clear Ybm;refine vg_call 7 rfl (by kernel_rfl) WN (ex_call rfl (by simp only [LA,LB,LC,(Ybo.f 27),(Ybo.f 28),evc] <;> rfl) rfl) (An.Prune_any s.N D s.na av _ s.nc _ cv z3 (hI.later hB).n (hD.later hB) (hI.later hB).nl (by omega)) rfl Ybo.z (by decide) ?_;rintro e z4 ⟨vAn,RAn,rfl,oAn,tAn,bAn⟩;obtain ⟨aAn,cAn,rfl,_,_⟩:=oAn.sl kAnA;have hS:=hS.trans (bAn.mono hS.size);refine ⟨_,rfl,hS,Ybo.k fun Ybp Ybq => ?_⟩;clear Ybo;have pAn:=Fr8.of_own (B:=w2.heap.size) kAnA oAn hzB;have tAn:=tAn.low (B':=w2.heap.size) hzB;have HS:=HS.bel bAn;have HZ:=HZ.bel bAn;have hB:=hB.trans (bAn.mono (by omega));have pL:=pL.later bAn;have pV:=pV.later bAn;have pAk:=pAk.later bAn;have pMk:=pMk.later bAn;have pBl:=pBl.later bAn;have tBl:=tBl.bel bAn;have hzB:=Nat.le_trans hzB bAn.size;clear bAn;clear oAn;refine vg_store 9 (z4.setCell ⟨w.heap.size,10,none⟩ (.slice aBl RBl.length cBl)) rfl (by kernel_rfl) (by kernel_rfl) WN (ex_st rfl (Ybq.f 30) (Ybq.f 25) (stB8 (HS.cell 10 _ rfl) (HS.free 10) _ _ _)) rfl ?_;have US : Upd (fun k => k = w.heap.size) z4 (z4.setCell ⟨w.heap.size,10,none⟩ (.slice aBl RBl.length cBl)):=(Upd.refl (fun k => k = w.heap.size) _).setCell (p:=⟨w.heap.size,10,none⟩) (.inl rfl) _;have HSn:=HS.set (j:=10) (by simp [Sta.cs]) (.slice aBl RBl.length cBl)
 obtain ⟨u3,hu3⟩ : ∃ v,v = (z4.setCell ⟨w.heap.size,10,none⟩ (.slice aBl RBl.length cBl)):=⟨_,rfl⟩
 rw [← hu3] at US HSn ⊢;clear hu3 HS;have HS : SB7 u3 (w.heap.size) { s with la:=some ⟨w2.heap.size,0,none⟩,lc:=s.L.length,va:=some ⟨x1.heap.size,0,none⟩,vc:=D.length,V:=D,ka:=aAk,kc:=cAk,A:=Ak.prn s.A D,ma:=aMk,mc:=cMk,M:=Mk.prn s.M D,ba:=aBl,bc:=cBl,B:=RBl }:=HSn;clear HSn;have HZ:=HZ.upd US (by show ¬ w.heap.size + 1 = w.heap.size;omega);have hB:=hB.trans (US.below hB.size (fun k hk => by omega));have pL:=pL.set US (by omega);have pV:=pV.set US (by omega);have pAk:=pAk.set US (by omega);have pMk:=pMk.set US (by omega);have pBl:=pBl.set US (by omega);have tBl:=tBl.set8 US (by omega);have pAn:=pAn.set US (by omega);have tAn:=tAn.set8 US (by omega);have hzB:=Nat.le_trans hzB US.size;clear US;refine vg_takeW 10 true (.pointer (some ⟨w.heap.size,11,none⟩)) rfl (by kernel_rfl) (by kernel_rfl) (by kernel_rfl) (by kernel_rfl) WN (fun hc v => ex_fa rfl (Ybq.f 2) (faS11 _ _)) rfl Ybq.z (by decide) (late_no 9 (by kernel_rfl)) (Ybq.k fun Ybr Ybs => ?_);clear Ybq;refine vg_store 11 (u3.setCell ⟨w.heap.size,11,none⟩ (.slice aAn RAn.length cAn)) rfl (by kernel_rfl) (by kernel_rfl) WN (ex_st rfl (Ybs.f 31) (Ybs.f 29) (stN8 (HS.cell 11 _ rfl) (HS.free 11) _ _ _)) rfl ?_;have US : Upd (fun k => k = w.heap.size) u3 (u3.setCell ⟨w.heap.size,11,none⟩ (.slice aAn RAn.length cAn)):=(Upd.refl (fun k => k = w.heap.size) _).setCell (p:=⟨w.heap.size,11,none⟩) (.inl rfl) _;have HSn:=HS.set (j:=11) (by simp [Sta.cs]) (.slice aAn RAn.length cAn)
 obtain ⟨u4,hu4⟩ : ∃ v,v = (u3.setCell ⟨w.heap.size,11,none⟩ (.slice aAn RAn.length cAn)):=⟨_,rfl⟩
 rw [← hu4] at US HSn ⊢;clear hu4 HS;have HS : SB7 u4 (w.heap.size) { s with la:=some ⟨w2.heap.size,0,none⟩,lc:=s.L.length,va:=some ⟨x1.heap.size,0,none⟩,vc:=D.length,V:=D,ka:=aAk,kc:=cAk,A:=Ak.prn s.A D,ma:=aMk,mc:=cMk,M:=Mk.prn s.M D,ba:=aBl,bc:=cBl,B:=RBl,na:=aAn,nc:=cAn,N:=RAn }:=HSn;clear HSn;have HZ:=HZ.upd US (by show ¬ w.heap.size + 1 = w.heap.size;omega);have hB:=hB.trans (US.below hB.size (fun k hk => by omega));have pL:=pL.set US (by omega);have pV:=pV.set US (by omega);have pAk:=pAk.set US (by omega);have pMk:=pMk.set US (by omega);have pBl:=pBl.set US (by omega);have tBl:=tBl.set8 US (by omega);have pAn:=pAn.set US (by omega);have tAn:=tAn.set8 US (by omega);have hzB:=Nat.le_trans hzB US.size;clear US;have hz:=Ybs.z;have s1:=Ybs.a 1 rfl;have s2:=Ybs.a 2 rfl;have s4:=Ybs.a 4 rfl;clear Ybs;refine vg_done (by kernel_rfl) ?_;clear HS0 hS
 go_upto_region 4 with fail
 refine WL ?_;have Ybt:=(((Rp.nil hz).cons s1).cons s2).cons s4;clear hz s1 s2 s4
 refine Ybt.t _ (ex_ld rfl (Ybt.f 2) (SB7.ld HS)) fun _ Ybu => ?_;clear Ybt
 refine vs (sets u4 (w.heap.size + 1) 0 (Sta.cs { s with la:=some ⟨w2.heap.size,0,none⟩,lc:=s.L.length,va:=some ⟨x1.heap.size,0,none⟩,vc:=D.length,V:=D,ka:=aAk,kc:=cAk,A:=Ak.prn s.A D,ma:=aMk,mc:=cMk,M:=Mk.prn s.M D,ba:=aBl,bc:=cBl,B:=RBl,na:=aAn,nc:=cAn,N:=RAn })) WN (ex_st rfl (Ybu.f 4) (Ybu.f 32) (st12 HZ { s with la:=some ⟨w2.heap.size,0,none⟩,lc:=s.L.length,va:=some ⟨x1.heap.size,0,none⟩,vc:=D.length,V:=D,ka:=aAk,kc:=cAk,A:=Ak.prn s.A D,ma:=aMk,mc:=cMk,M:=Mk.prn s.M D,ba:=aBl,bc:=cBl,B:=RBl,na:=aAn,nc:=cAn,N:=RAn })) rfl ?_;have HP:=SB7.put HZ { s with la:=some ⟨w2.heap.size,0,none⟩,lc:=s.L.length,va:=some ⟨x1.heap.size,0,none⟩,vc:=D.length,V:=D,ka:=aAk,kc:=cAk,A:=Ak.prn s.A D,ma:=aMk,mc:=cMk,M:=Mk.prn s.M D,ba:=aBl,bc:=cBl,B:=RBl,na:=aAn,nc:=cAn,N:=RAn };have UP:=upd12 u4 (w.heap.size + 1) { s with la:=some ⟨w2.heap.size,0,none⟩,lc:=s.L.length,va:=some ⟨x1.heap.size,0,none⟩,vc:=D.length,V:=D,ka:=aAk,kc:=cAk,A:=Ak.prn s.A D,ma:=aMk,mc:=cMk,M:=Mk.prn s.M D,ba:=aBl,bc:=cBl,B:=RBl,na:=aAn,nc:=cAn,N:=RAn }
 obtain ⟨u9,hu9⟩ : ∃ v,v = sets u4 (w.heap.size + 1) 0 (Sta.cs { s with la:=some ⟨w2.heap.size,0,none⟩,lc:=s.L.length,va:=some ⟨x1.heap.size,0,none⟩,vc:=D.length,V:=D,ka:=aAk,kc:=cAk,A:=Ak.prn s.A D,ma:=aMk,mc:=cMk,M:=Mk.prn s.M D,ba:=aBl,bc:=cBl,B:=RBl,na:=aAn,nc:=cAn,N:=RAn }):=⟨_,rfl⟩
 rw [← hu9] at HP UP ⊢;have hB9:=hide (hB.trans (UP.below hB.size (fun k hk => by omega)));have pL:=pL.set UP (by omega);have pV:=pV.set UP (by omega);have pAk:=pAk.set UP (by omega);have pMk:=pMk.set UP (by omega);have pBl:=pBl.set UP (by omega);have tBl:=tBl.set8 UP (by omega);have pAn:=pAn.set UP (by omega);have tAn:=tAn.set8 UP (by omega);clear hu9 UP;have hz:=Ybu.z;have s4:=Ybu.a 4 rfl;clear Ybu;refine WE ?_
 go_wp2
 refine bodyPost_ret (results_sta rfl (getD_of s4) HP) rfl ?_
 exact ⟨_,rfl,⟨rfl,rfl,rfl,rfl,rfl,rfl,rfl,rfl,rfl,rfl,tBl.low (by omega),tAn.low (by omega),⟨pL.sl,pV.sl,pAk.sl,pMk.sl,pBl.sl,pAn.sl,tBl.in8,tAn.in8⟩⟩,Sta.Lo.low ⟨pL.lo,pV.lo,pAk.lo,pMk.lo,pBl.lo,pAn.lo⟩ (by omega),hB9.out⟩
theorem copied8 (s : Sta) (w : World) (hI : s.In w) (hF : s.Fit) : Calls Tryz.prog 26 #[s.val] w fun e w' => ∃ t : Sta,e = .returned t.val∧t.Kn w.heap.size s s.V w'∧t.Lo w.heap.size∧Below w.heap.size w w':=by
 go_enter Tryz.func26,Tryz.ntmps26
 go_upto_region 0 with fail
 refine WL ?_;refine vl_gen (fun T => T.size = 7∧T[0]? = some (gw true (s.val))) ⟨rfl,rfl⟩ (fun Z0 ⟨hz,s0⟩ => ?_)
 obtain ⟨w1,hw1⟩ : ∃ y,y = w.alloc (.cells s.cs.toArray 33):=⟨_,rfl⟩
 have hb : Below w.heap.size w w1:=by rw [hw1];exact BR.alloc LR _
 have hs1 : w1.heap.size = w.heap.size + 1:=by rw [hw1];simp
 have HS : SB7 w1 (w.heap.size) s:=by rw [hw1];exact BX7.new _ _ _
 refine vw (.pointer (some ⟨w.heap.size,0,none⟩)) w1 WN (ex_box8 rfl (ev s0 rfl) (by rw [hw1];exact bxS7 _ _)) rfl hz (by decide) (fun Z1 zz kk s1x => ?_);clear kk hz s0 hw1;have hz:=zz;have s1:=s1x;clear zz s1x;have hB:=hb;clear hb;have hv0 : Below w1.heap.size w1 w1:=BR
 obtain ⟨w2,hw2⟩ : ∃ y,y = w1.alloc (.cells zS8.cs.toArray 33):=⟨_,rfl⟩
 have hb : Below w1.heap.size w1 w2:=by rw [hw2];exact BR.alloc LR _
 have HZ : SB7 w2 (w.heap.size + 1) zS8:=by rw [hw2,← hs1];exact BX7.new _ _ _
 have Ya:=(Rp.nil hz).cons s1;clear hz s1;refine vw (.pointer (some ⟨w.heap.size + 1,0,none⟩)) w2 WN (ex_al rfl (by rw [hw2,← hs1];exact al12 _)) rfl Ya.z (by decide) (Ya.k fun Yb Yc => ?_);clear Ya;have hz:=Yc.z;have s1:=Yc.a 1 rfl;have s2:=Yc.a 2 rfl;clear Yc;refine WE ?_;have hB:=hB.trans (hb.mono (by omega));have HS:=HS.bel hb;have HI:=hI.later hB;clear hb hw2 hv0;have hv0 : Below w2.heap.size w2 w2:=BR
 go_upto_region 1 with fail
 refine WL ?_;have Yd:=((Rp.nil hz).cons s1).cons s2;clear hz s1 s2
 refine Yd.t _ (ex_ld rfl (Yd.f 1) (SB7.ld (HS.bel hv0))) fun _ Ye => ?_;clear Yd
 refine Ye.t _ (ex_fa rfl (Ye.f 1) (faS6 _ _)) fun _ Yf => ?_;clear Ye
 refine Yf.t _ (ex_ld rfl (Yf.f 4) (ldV8 (cell8 (HS.cell 6 _ rfl) hv0))) fun _ Yg => ?_;clear Yf
 refine Yg.c (ex_call rfl (by simp only [LA,LB,LC,(Yg.f 3),(Yg.f 5),evc] <;> rfl) rfl) (knowing8 s s.va s.vc s.V w2 HI hF HI.v hF.vl) ?_;rintro e x1 ⟨t,rfl,hk,hlo,bk⟩;refine ⟨_,rfl,Yg.k fun Yh Yi => ?_⟩;clear Yg;have hz3:=HZ.lt;have HZ:=HZ.bel bk;have hz1:=hB.size;have hz2:=bk.size;have hB:=hB.trans (bk.mono hz1);clear bk;refine vs (sets x1 (w.heap.size + 1) 0 t.cs) WN (ex_st rfl (Yi.f 2) (Yi.f 6) (st12 HZ t)) rfl ?_;have HP:=SB7.put HZ t;have UP:=upd12 x1 (w.heap.size + 1) t
 obtain ⟨u9,hu9⟩ : ∃ v,v = sets x1 (w.heap.size + 1) 0 t.cs:=⟨_,rfl⟩
 rw [← hu9] at HP UP ⊢;have hB9:=hide (hB.trans (UP.below hB.size (fun k hk => by omega)));have hk2:=hk.set8 UP (by omega) hlo;clear hu9 UP hk;have hz:=Yi.z;have s2:=Yi.a 2 rfl;clear Yi;refine WE ?_
 go_wp2
 refine bodyPost_ret (results_sta rfl (getD_of s2) HP) rfl ?_
 exact ⟨t,rfl,hk2.low8 (by omega),hlo.low (by omega),hB9.out⟩
end Go.Proofs.YtpcgnjpodnebpaaGreatDoor
namespace Go.Proofs.YtpcgnjpodnebpaaGreatDoor
open Go.RowKit Go.Maps Go.Shelf
open Classical
theorem nil_sl8 {α : Type} (Y : Lay α) (w : World) : SlY Y w none 0 0 []:=⟨rfl,LR,Nat.zero_le _,fun _ => ⟨rfl,rfl⟩,fun x h => by cases h⟩
theorem zS8_in (w : World) : zS8.In w:=⟨nil_sl8 _ _,nil_sl8 _ _,nil_sl8 _ _,nil_sl8 _ _,nil_sl8 _ _,nil_sl8 _ _,(fun x h => by cases h),(fun x h => by cases h)⟩
theorem Sta.Kn.later8 {t : Sta} {B : Nat} {s : Sta} {D : List (Int × Int)} {w w' : World} (h : t.Kn B s D w) (hb : Below w.heap.size w w') : t.Kn B s D w' :=
 ⟨h.self,h.st,h.view,h.last,h.commit,h.idle,h.l,h.v,h.a,h.m,h.b.bel hb,h.n.bel hb,h.inn.later hb⟩
end Go.Proofs.YtpcgnjpodnebpaaGreatDoor
namespace Go.Proofs.YtpcgnjpodnebpaaGreatDoor
open Go.RowKit Go.Maps
open Classical
theorem refentry_any (C N k s : Int) (v : ByteArray) (hf : (⟨k,s,v⟩ : Opn).fits) (w : World) :
  Calls Tryz.prog 110 #[.agg #[.int .i64 C,.int .i64 N,.int .i64 k,.int .i64 s,.string v]] w fun e w' => e = .returned (.int .i64 (ckE ⟨C,N,⟨k,s,v⟩⟩))∧Below w.heap.size w w':=by
 have cc:=fun W => refcheck k s v hf W
 have bA:=(Below.refl w.heap.size w).alloc LR (.cells #[.int .i64 C,.int .i64 N,.int .i64 k,.int .i64 s,.string v] 47)
 by_cases h1 : C < 0
 ·have hE : Hid (ckE ⟨C,N,⟨k,s,v⟩⟩ = 62):=by show _ = _;simp [ckE,h1]
  have d1 : decide (C < 0) = true:=by simpa using h1
  go_enter Tryz.func110,Tryz.ntmps110
  go_wp2
  go_ret
  exact ⟨ret_int hE.out.symm,bA⟩
 ·by_cases h2 : 16 ≤ C
  ·have hE : Hid (ckE ⟨C,N,⟨k,s,v⟩⟩ = 62):=by show _ = _;simp [ckE,h2]
   go_enter Tryz.func110,Tryz.ntmps110
   go_wp2
   go_ret
   exact ⟨ret_int hE.out.symm,bA⟩
  ·by_cases h3 : N < 1
   ·have hE : Hid (ckE ⟨C,N,⟨k,s,v⟩⟩ = 63):=by show _ = _;simp [ckE,h1,h2,h3]
    go_enter Tryz.func110,Tryz.ntmps110
    go_wp2
    go_ret
    exact ⟨ret_int hE.out.symm,bA⟩
   ·have hE : Hid (ckE ⟨C,N,⟨k,s,v⟩⟩ = ck k s v):=by show _ = _;simp [ckE,h1,h2,h3]
    generalize ck k s v = x at *
    go_enter Tryz.func110,Tryz.ntmps110
    go_wp2_with (go_at_call 141;refine (cc _).mono ?_;rintro e w2 ⟨rfl,b2⟩)
    go_ret
    exact ⟨ret_int hE.out.symm,bA.trans (b2.mono (by simp))⟩
theorem reflog_any (L : List En) (a : Option Addr) (c : Nat) (room : Int) (w : World) (h : SlY yE w a L.length c L) (hf : ∀ e ∈ L,e.fits) :
  Calls Tryz.prog 64 #[.slice a L.length c,.int .i64 room] w fun e w' => e = .returned (.int .i64 (lg L room))∧Below w.heap.size w w':=by
 have hmx:=h.max;have hcp:=h.cap
 unfold maxLen at hmx
 have H:=hide h;have HF:=hide hf;clear h hf
 by_cases hl : room < (L.length : Int)
 ·have hE : Hid (lg L room = 60):=by show _ = _;simp [lg,hl]
  go_enter Tryz.func64,Tryz.ntmps64
  go_wp2
  go_ret
  exact ⟨ret_int hE.out.symm,BR⟩
 ·have HL : Hid (lg L room = lgA (L.take 0) (L.drop 0)):=by show _ = _;simp [lg,hl]
  go_enter Tryz.func64,Tryz.ntmps64
  go_wp2
  go_loopw [5] (fun i wr => ∃ j : Nat,i = .int .i64 (j : Int)∧j ≤ L.length∧Hid (lg L room = lgA (L.take j) (L.drop j))∧Below w.heap.size w wr) (fun i _ => L.length - (intOf i).toNat)
  case atStart => exact ⟨0,rfl,Nat.zero_le _,HL,BR⟩
  case round =>
   obtain ⟨j,rfl,hj,hL,hb⟩:=hrel
   by_cases hlt : j < L.length
   ·have hg : L[j]? = some L[j]:=List.getElem?_eq_getElem hlt
    have hat:=lgA_at hg;have hfj:=(HF.out L[j] (List.getElem_mem hlt)).ow;obtain ⟨q,o,ea,hq,c0,c1,c2,c3,c4⟩:=(H.out.later hb).en hg;have HE:=hide (fun W (hb : Below w.heap.size w W) => (H.out.later hb).en hg)
    generalize hee : L[j] = e at *
    subst ea
    have ce:=fun W => refentry_any e.c e.n e.o.k e.o.s e.o.v hfj W
    have hA:=hide hat;clear hat;have hsz:=hb.size
    have her : er (L.take j) e = if ckE e ≠ 0 then ckE e else if tw (L.take j) e then 64 else 0:=rfl
    have hER:=hide her;clear her;have hx0 : ckE ⟨e.c,e.n,⟨e.o.k,e.o.s,e.o.v⟩⟩ = ckE e:=rfl;rw [hx0] at ce
    generalize ckE e = x at *
    by_cases hx : x = 0
    ·subst hx
     go_wp2_with (go_at_call 110;refine (ce _).mono ?_;rintro r w1 ⟨rfl,b1⟩)
     have hb1:=hb.trans (b1.mono hsz);clear c0 c1 c2 c3 c4
     go_loopw [7] (fun i wr => ∃ m : Nat,i = .int .i64 (m : Int)∧m ≤ j∧Hid (tw (L.take m) e = false)∧Below w.heap.size w wr) (fun i _ => j - (intOf i).toNat)
     case atStart => exact ⟨0,rfl,Nat.zero_le _,by show tw _ _ = _;simp [tw],hb1⟩
     case round =>
      obtain ⟨m,rfl,hm,htw,hbm⟩:=hrel
      by_cases hlm : m < j
      ·have hgm : L[m]? = some L[m]:=List.getElem?_eq_getElem (by omega)
       have hst:=tw_take_step (e:=e) hgm;obtain ⟨q2,o2,ea2,hq2,d0,d1,d2,d3,d4⟩:=HE.out wr hbm
       cases ea2
       obtain ⟨q3,o3,ea3,hq3,f0,f1,f2,f3,f4⟩:=(H.out.later hbm).en hgm
       cases ea3
       generalize hpp : L[m] = p at *
       rw [htw.out] at hst;have hST:=hide hst;clear hst hpp hgm hg hee;obtain ⟨Ce,Ne,oe⟩:=e;obtain ⟨Cp,Np,op⟩:=p
       dsimp only at *
       by_cases hc : Cp = Ce
       ·subst hc
        by_cases hn : Ne ≤ Np
        ·have hE : Hid (lg L room = 64):=by
          show _ = _
          have ht:=tw_mono (L:=L) (show m + 1 ≤ j by omega) (hST.out.trans (by simp [hn]));rw [hL.out,hA.out,hER.out,ht]
          simp
         go_wp2
         go_quiet (fail)
         go_wp2
         go_ret
         exact ⟨ret_int hE.out.symm,belN hbm nq⟩
        ·have hT : Hid (tw (L.take (m + 1)) ⟨Cp,Ne,oe⟩ = false):=by show _ = _;rw [hST.out];simp [hn]
         have hn' : decide (Ne ≤ Np) = false:=by simpa using hn
         go_wp2
         go_quiet (fail)
         go_wp2
         go_round
         case rel => exact ⟨m + 1,by go_num,by omega,hT,belN hbm nq⟩
         case measure => simp [intOf];omega
       ·have hT : Hid (tw (L.take (m + 1)) ⟨Ce,Ne,oe⟩ = false):=by show _ = _;rw [hST.out];simp [hc]
        have hd : decide (Cp = Ce) = false:=by simpa using hc
        have hd2 : (Cp == Ce) = false:=by simpa using hc
        go_wp2
        go_quiet (fail)
        go_wp2
        go_round
        case rel => exact ⟨m + 1,by go_num,by omega,hT,belN hbm nq⟩
        case measure => simp [intOf];omega
      ·obtain rfl : m = j:=by omega
       have hE : Hid (lg L room = lgA (L.take (m + 1)) (L.drop (m + 1))):=by
        show _ = _
        rw [hL.out,hA.out,hER.out,htw.out]
        simp
       go_wp2
       go_round
       case rel => exact ⟨m + 1,by go_num,by omega,hE,hbm⟩
       case measure => simp [intOf];omega
    ·have hE : Hid (lg L room = x):=by show _ = _;rw [hL.out,hA.out,hER.out];simp [hx]
     go_wp2_with (go_at_call 110;refine (ce _).mono ?_;rintro r w1 ⟨rfl,b1⟩)
     go_ret
     exact ⟨ret_int hE.out.symm,hb.trans (b1.mono hsz)⟩
   ·obtain rfl : j = L.length:=by omega
    have hE:=hL.out;rw [lgA_end] at hE;have hEh:=hide hE;clear hE
    go_wp2
    go_ret
    exact ⟨ret_int hEh.out.symm,hb⟩
theorem ckA_lgA : ∀ (L past : List En),(ckA past L).1 = lgA past L
 | [],past => rfl
 | e :: r,past => by
  unfold ckA lgA
  by_cases h : er past e ≠ 0
  ·rw [if_pos h,if_pos h]
  ·rw [if_neg h,if_neg h];exact ckA_lgA r _
theorem chk_lg {r : Int} (h1 : 1 ≤ r) (h2 : r ≤ 256) (L : List En) : (chk L r).1 = lg L r:=by
 unfold chk lg
 rw [if_neg (by omega)]
 by_cases h : r < L.length
 ·rw [if_pos h,if_pos h]
 ·rw [if_neg h,if_neg h];exact ckA_lgA L []
end Go.Proofs.YtpcgnjpodnebpaaGreatDoor
namespace Go.Proofs.YtpcgnjpodnebpaaGreatDoor
open Go.RowKit Go.Maps Go.Shelf
open Classical
theorem okB_eq9 (c : Cg) : c.okB = (((((((decide (1 ≤ c.F)) && (decide (c.F ≤ 3))) && (decide (1 ≤ c.R))) && (decide (c.R ≤ 256))) && (decide (6 ≤ c.P))) && (decide (c.P ≤ 100)))):=by
 unfold Cg.okB inB
 simp only [Bool.and_assoc]
def lgB9 (c : Cg) (L : List En) (x : Int) : Bool:=(decide (lg L c.R = 0) && decide (0 ≤ x)) && decide (x ≤ (L.length : Int))
theorem rconfig9 (c : Cg) (w : World)  : Calls Tryz.prog 30 #[c.val] w fun e w' => e = .returned (.bool c.okB)∧Below w.heap.size w w':=by
 go_enter Tryz.func30,Tryz.ntmps30
 go_upto_region 0 with fail
 refine WL ?_;refine vl_gen (fun T => T.size = 31∧T[0]? = some (gw true (c.val))) ⟨rfl,rfl⟩ (fun Z0 ⟨hz,s0⟩ => ?_)
 obtain ⟨w1,hw1⟩ : ∃ y,y = w.alloc (.cells c.cs.toArray 23):=⟨_,rfl⟩
 have hb : Below w.heap.size w w1:=by rw [hw1];exact BR.alloc LR _
 have hs1 : w1.heap.size = w.heap.size + 1:=by rw [hw1];simp
 have HC : CB7 w1 (w.heap.size) c:=by rw [hw1];exact BX7.new _ _ _
 refine vw (.pointer (some ⟨w.heap.size,0,none⟩)) w1 WN (ex_box8 rfl (ev s0 rfl) (by rw [hw1];exact bxC7 _ _)) rfl hz (by decide) (fun Z1 zz kk s1x => ?_);clear kk hz s0 hw1;have hz:=zz;have s1:=s1x;clear zz s1x;have hB:=hb;clear hb;have hv0 : Below w1.heap.size w1 w1:=BR;have Ya:=(Rp.nil hz).cons s1;clear hz s1
 refine Ya.t (.bool false) (ex_assign rfl rfl) fun _ Yb => ?_;clear Ya
 have hz:=Yb.z;have s1:=Yb.a 1 rfl;clear Yb;refine WE ?_
 go_upto_region 1 with fail
 refine WL ?_;have Yc:=(Rp.nil hz).cons s1;clear hz s1
 refine Yc.t _ (ex_fa rfl (Yc.f 1) (faC0 _ _)) fun _ Yd => ?_;clear Yc
 refine Yd.t _ (ex_ld rfl (Yd.f 3) (ldI8 (cell8 (HC.cell 0 _ rfl) hv0))) fun _ Ye => ?_;clear Yd
 refine Ye.t (.bool (decide (1 ≤ c.F))) (ex_bin rfl (Ye.f 4) rfl (geqC _ _ _ _ _)) fun _ Yf => ?_;clear Ye
 refine Yf.t _ (ex_move rfl (Yf.f 5)) fun _ Yg => ?_;clear Yf
 refine Yg.g 6 rfl rfl _ (fun hc => ex_fa rfl (Yg.f 1) (faC0 _ _)) fun Yh Yi => ?_;clear Yg
 refine Yi.g 6 rfl rfl _ (fun hc => ex_ld rfl (Yi.v 7 hc) (ldI8 (cell8 (HC.cell 0 _ rfl) hv0))) fun Yj Yk => ?_;clear Yi
 refine Yk.g 6 rfl rfl (.bool (decide (c.F ≤ 3))) (fun hc => ex_bin rfl (Yk.v 8 hc) rfl (leqC8 _ _ _ _ _)) fun Yl Ym => ?_;clear Yk
 refine Ym.t (.bool ((decide (1 ≤ c.F)) && (decide (c.F ≤ 3)))) (ex_and rfl (Ym.a 6 rfl) (Ym.a 9 rfl) rfl) fun _ Yn => ?_;clear Ym
 refine Yn.t _ (ex_move rfl (Yn.f 10)) fun _ Yo => ?_;clear Yn
 refine Yo.g 11 rfl rfl _ (fun hc => ex_fa rfl (Yo.f 1) (faC1 _ _)) fun Yp Yq => ?_;clear Yo
 refine Yq.g 11 rfl rfl _ (fun hc => ex_ld rfl (Yq.v 12 hc) (ldI8 (cell8 (HC.cell 1 _ rfl) hv0))) fun Yr Ys => ?_;clear Yq
 refine Ys.g 11 rfl rfl (.bool (decide (1 ≤ c.R))) (fun hc => ex_bin rfl (Ys.v 13 hc) rfl (geqC _ _ _ _ _)) fun Yt Yu => ?_;clear Ys
 refine Yu.t (.bool (((decide (1 ≤ c.F)) && (decide (c.F ≤ 3))) && (decide (1 ≤ c.R)))) (ex_and rfl (Yu.a 11 rfl) (Yu.a 14 rfl) rfl) fun _ Yv => ?_;clear Yu
 refine Yv.t _ (ex_move rfl (Yv.f 15)) fun _ Yw => ?_;clear Yv
 refine Yw.g 16 rfl rfl _ (fun hc => ex_fa rfl (Yw.f 1) (faC1 _ _)) fun Yx Yy => ?_;clear Yw
 refine Yy.g 16 rfl rfl _ (fun hc => ex_ld rfl (Yy.v 17 hc) (ldI8 (cell8 (HC.cell 1 _ rfl) hv0))) fun Yz Y0 => ?_;clear Yy
 refine Y0.g 16 rfl rfl (.bool (decide (c.R ≤ 256))) (fun hc => ex_bin rfl (Y0.v 18 hc) rfl (leqC8 _ _ _ _ _)) fun Y1 Y2 => ?_;clear Y0
 refine Y2.t (.bool ((((decide (1 ≤ c.F)) && (decide (c.F ≤ 3))) && (decide (1 ≤ c.R))) && (decide (c.R ≤ 256)))) (ex_and rfl (Y2.a 16 rfl) (Y2.a 19 rfl) rfl) fun _ Y3 => ?_;clear Y2
 refine Y3.t _ (ex_move rfl (Y3.f 20)) fun _ Y4 => ?_;clear Y3
 refine Y4.g 21 rfl rfl _ (fun hc => ex_fa rfl (Y4.f 1) (faC2 _ _)) fun Y5 Y6 => ?_;clear Y4
 refine Y6.g 21 rfl rfl _ (fun hc => ex_ld rfl (Y6.v 22 hc) (ldI8 (cell8 (HC.cell 2 _ rfl) hv0))) fun Y7 Y8 => ?_;clear Y6
 refine Y8.g 21 rfl rfl (.bool (decide (6 ≤ c.P))) (fun hc => ex_bin rfl (Y8.v 23 hc) rfl (geqC _ _ _ _ _)) fun Y9 Yba => ?_;clear Y8
 refine Yba.t (.bool (((((decide (1 ≤ c.F)) && (decide (c.F ≤ 3))) && (decide (1 ≤ c.R))) && (decide (c.R ≤ 256))) && (decide (6 ≤ c.P)))) (ex_and rfl (Yba.a 21 rfl) (Yba.a 24 rfl) rfl) fun _ Ybb => ?_;clear Yba
 refine Ybb.t _ (ex_move rfl (Ybb.f 25)) fun _ Ybc => ?_;clear Ybb
 refine Ybc.g 26 rfl rfl _ (fun hc => ex_fa rfl (Ybc.f 1) (faC2 _ _)) fun Ybd Ybe => ?_;clear Ybc
 refine Ybe.g 26 rfl rfl _ (fun hc => ex_ld rfl (Ybe.v 27 hc) (ldI8 (cell8 (HC.cell 2 _ rfl) hv0))) fun Ybf Ybg => ?_;clear Ybe
 refine Ybg.g 26 rfl rfl (.bool (decide (c.P ≤ 100))) (fun hc => ex_bin rfl (Ybg.v 28 hc) rfl (leqC8 _ _ _ _ _)) fun Ybh Ybi => ?_;clear Ybg
 refine Ybi.t (.bool ((((((decide (1 ≤ c.F)) && (decide (c.F ≤ 3))) && (decide (1 ≤ c.R))) && (decide (c.R ≤ 256))) && (decide (6 ≤ c.P))) && (decide (c.P ≤ 100)))) (ex_and rfl (Ybi.a 26 rfl) (Ybi.a 29 rfl) rfl) fun _ Ybj => ?_;clear Ybi
 refine Ybj.t _ (ex_assign rfl (Ybj.f 30)) fun _ Ybk => ?_;clear Ybj
 have hz:=Ybk.z;have s2:=Ybk.a 2 rfl;clear Ybk;refine WE ?_
 go_wp2
 refine bodyPost_ret (results_tmp rfl _ _ _) rfl ⟨?_,hB.trans (hv0.mono (by omega))⟩;rw [getD_of s2];rw [show c.okB = (((((((decide (1 ≤ c.F)) && (decide (c.F ≤ 3))) && (decide (1 ≤ c.R))) && (decide (c.R ≤ 256))) && (decide (6 ≤ c.P))) && (decide (c.P ≤ 100)))) from okB_eq9 c]
 rfl
theorem rcheckconfig9 (c : Cg) (w : World)  : Calls Tryz.prog 21 #[c.val] w fun e w' => e = .returned (.int .i64 c.er)∧Below w.heap.size w w':=by
 go_enter Tryz.func21,Tryz.ntmps21
 go_upto_region 0 with fail
 refine WL ?_;refine vl_gen (fun T => T.size = 6∧T[0]? = some (gw true (c.val))) ⟨rfl,rfl⟩ (fun Z0 ⟨hz,s0⟩ => ?_)
 obtain ⟨w1,hw1⟩ : ∃ y,y = w.alloc (.cells c.cs.toArray 23):=⟨_,rfl⟩
 have hb : Below w.heap.size w w1:=by rw [hw1];exact BR.alloc LR _
 have hs1 : w1.heap.size = w.heap.size + 1:=by rw [hw1];simp
 have HC : CB7 w1 (w.heap.size) c:=by rw [hw1];exact BX7.new _ _ _
 refine vw (.pointer (some ⟨w.heap.size,0,none⟩)) w1 WN (ex_box8 rfl (ev s0 rfl) (by rw [hw1];exact bxC7 _ _)) rfl hz (by decide) (fun Z1 zz kk s1x => ?_);clear kk hz s0 hw1;have hz:=zz;have s1:=s1x;clear zz s1x;have hB:=hb;clear hb;have hv0 : Below w1.heap.size w1 w1:=BR;have Ya:=(Rp.nil hz).cons s1;clear hz s1
 refine Ya.t (.int .i64 0) (ex_assign rfl rfl) fun _ Yb => ?_;clear Ya
 have hz:=Yb.z;have s1:=Yb.a 1 rfl;clear Yb;refine WE ?_
 go_upto_region 1 with fail
 refine WL ?_;have Yc:=(Rp.nil hz).cons s1;clear hz s1
 refine Yc.t _ (ex_ld rfl (Yc.f 1) (CB7.ld (HC.bel hv0))) fun _ Yd => ?_;clear Yc
 refine vcall true (.bool c.okB) WN (fun hc => ex_call rfl (by simp only [LA,LB,LC,(Yd.f 3),evc] <;> rfl) rfl) (fun hc => rconfig9 c w1) rfl Yd.z (by decide) (Yd.kc fun Ye x1 hb Yf => ?_);clear Yd;have hx1:=hv0.trans (hb.mono hv0.size);clear hb
 refine Yf.t (.bool (!c.okB)) (ex_not rfl (Yf.f 4)) fun _ Yg => ?_;clear Yf
 have hz:=Yg.z;have s5:=Yg.a 5 rfl;clear Yg;refine WE ?_
 go_upto_region 2 with fail
 cases eo : c.okB
 ·refine wp_cond_true ((ev s5 rfl).trans (by rw [eo];rfl)) ?_
  go_upto_region 2 with fail
  refine WL ?_;have Yh:=Rp.nil hz;clear hz
  refine Yh.t (.int .i64 1) (ex_assign rfl rfl) fun _ Yi => ?_;clear Yh
  have hz:=Yi.z;have s2:=Yi.a 2 rfl;clear Yi;refine WE ?_
  go_wp2
  refine bodyPost_ret (results_tmp rfl _ _ _) rfl ⟨?_,hB.trans (hx1.mono (by omega))⟩;rw [getD_of s2]
  unfold Cg.er
  rw [eo]
  rfl
 ·refine wp_cond_false ((ev s5 rfl).trans (by rw [eo];rfl)) ?_
  go_upto_region 3 with fail
  refine WL ?_;have Yj:=Rp.nil hz;clear hz
  refine Yj.t (.int .i64 0) (ex_assign rfl rfl) fun _ Yk => ?_;clear Yj
  have hz:=Yk.z;have s2:=Yk.a 2 rfl;clear Yk;refine WE ?_
  go_wp2
  refine bodyPost_ret (results_tmp rfl _ _ _) rfl ⟨?_,hB.trans (hx1.mono (by omega))⟩;rw [getD_of s2]
  unfold Cg.er
  rw [eo]
  rfl
theorem rnodes9 (c : Cg) (w : World)  : Calls Tryz.prog 49 #[c.val] w fun e w' => e = .returned (.int .i64 c.nd)∧Below w.heap.size w w':=by
 go_enter Tryz.func49,Tryz.ntmps49
 go_upto_region 0 with fail
 refine WL ?_;refine vl_gen (fun T => T.size = 10∧T[0]? = some (gw true (c.val))) ⟨rfl,rfl⟩ (fun Z0 ⟨hz,s0⟩ => ?_)
 obtain ⟨w1,hw1⟩ : ∃ y,y = w.alloc (.cells c.cs.toArray 23):=⟨_,rfl⟩
 have hb : Below w.heap.size w w1:=by rw [hw1];exact BR.alloc LR _
 have hs1 : w1.heap.size = w.heap.size + 1:=by rw [hw1];simp
 have HC : CB7 w1 (w.heap.size) c:=by rw [hw1];exact BX7.new _ _ _
 refine vw (.pointer (some ⟨w.heap.size,0,none⟩)) w1 WN (ex_box8 rfl (ev s0 rfl) (by rw [hw1];exact bxC7 _ _)) rfl hz (by decide) (fun Z1 zz kk s1x => ?_);clear kk hz s0 hw1;have hz:=zz;have s1:=s1x;clear zz s1x;have hB:=hb;clear hb;have hv0 : Below w1.heap.size w1 w1:=BR;have Ya:=(Rp.nil hz).cons s1;clear hz s1
 refine Ya.t (.int .i64 0) (ex_assign rfl rfl) fun _ Yb => ?_;clear Ya
 have hz:=Yb.z;have s1:=Yb.a 1 rfl;clear Yb;refine WE ?_
 go_upto_region 1 with fail
 refine WL ?_;have Yc:=(Rp.nil hz).cons s1;clear hz s1
 refine Yc.t _ (ex_ld rfl (Yc.f 1) (CB7.ld (HC.bel hv0))) fun _ Yd => ?_;clear Yc
 refine vcall true (.int .i64 c.er) WN (fun hc => ex_call rfl (by simp only [LA,LB,LC,(Yd.f 3),evc] <;> rfl) rfl) (fun hc => rcheckconfig9 c w1) rfl Yd.z (by decide) (Yd.kc fun Ye x1 hb Yf => ?_);clear Yd;have hx1:=hv0.trans (hb.mono hv0.size);clear hb
 refine Yf.t (.bool (!decide (c.er = 0))) (ex_bin rfl (Yf.f 4) rfl (neqC _ _ _ _ _)) fun _ Yg => ?_;clear Yf
 have hz:=Yg.z;have s1:=Yg.a 1 rfl;have s5:=Yg.a 5 rfl;clear Yg;refine WE ?_
 go_upto_region 2 with fail
 cases eo : c.okB
 ·refine wp_cond_true ((ev s5 rfl).trans (by unfold Cg.er;rw [eo];rfl)) ?_
  go_upto_region 2 with fail
  refine WL ?_;have Yh:=(Rp.nil hz).cons s1;clear hz s1
  refine Yh.t (.int .i64 0) (ex_assign rfl rfl) fun _ Yi => ?_;clear Yh
  have hz:=Yi.z;have s2:=Yi.a 2 rfl;clear Yi;refine WE ?_
  go_wp2
  refine bodyPost_ret (results_tmp rfl _ _ _) rfl ⟨?_,hB.trans (hx1.mono (by omega))⟩;rw [getD_of s2];rw [show c.nd = 0 from by unfold Cg.nd;rw [eo];rfl]
  rfl
 ·refine wp_cond_false ((ev s5 rfl).trans (by unfold Cg.er;rw [eo];rfl)) ?_
  obtain ⟨h1,h2,h3⟩:=Cg.nd_ok eo
  go_upto_region 3 with fail
  refine WL ?_;have Yj:=(Rp.nil hz).cons s1;clear hz s1
  refine Yj.t _ (ex_fa rfl (Yj.f 1) (faC0 _ _)) fun _ Yk => ?_;clear Yj
  refine Yk.t _ (ex_ld rfl (Yk.f 6) (ldI8 (cell8 (HC.cell 0 _ rfl) hx1))) fun _ Yl => ?_;clear Yk
  refine Yl.t (.int .i64 (2 * c.F)) (ex_bin rfl rfl (Yl.f 7) (mulD8 _ _ 2 c.F (2 * c.F) (by rw [IntKind.wrap_i64];omega) _)) fun _ Ym => ?_;clear Yl
  refine Ym.t (.int .i64 (2 * c.F + 1)) (ex_bin rfl (Ym.f 8) rfl (addD8 _ _ (2 * c.F) 1 (2 * c.F + 1) (by rw [IntKind.wrap_i64];omega) _)) fun _ Yn => ?_;clear Ym
  refine Yn.t _ (ex_assign rfl (Yn.f 9)) fun _ Yo => ?_;clear Yn
  have hz:=Yo.z;have s2:=Yo.a 2 rfl;clear Yo;refine WE ?_
  go_wp2
  refine bodyPost_ret (results_tmp rfl _ _ _) rfl ⟨?_,hB.trans (hx1.mono (by omega))⟩;rw [getD_of s2];rw [h1]
  rfl
theorem rlogged9 (c : Cg) (L : List En) (la : Option Addr) (lc : Nat) (x : Int) (w : World) (hL : SlY yE w la L.length lc L) (hle : ∀ e ∈ L,e.fits) : Calls Tryz.prog 50 #[c.val,.slice la L.length lc,.int .i64 x] w fun e w' => e = .returned (.bool (lgB9 c L x))∧Below w.heap.size w w':=by
 go_enter Tryz.func50,Tryz.ntmps50
 go_upto_region 0 with fail
 refine WL ?_;refine vl_gen (fun T => T.size = 22∧T[0]? = some (gw true (c.val))∧T[1]? = some (gw true (.slice la L.length lc))∧T[2]? = some (gw true (.int .i64 x))) ⟨rfl,rfl,rfl,rfl⟩ (fun Z0 ⟨hz,s0,s1,s2⟩ => ?_)
 obtain ⟨w1,hw1⟩ : ∃ y,y = w.alloc (.cells c.cs.toArray 23):=⟨_,rfl⟩
 have hb : Below w.heap.size w w1:=by rw [hw1];exact BR.alloc LR _
 have hs1 : w1.heap.size = w.heap.size + 1:=by rw [hw1];simp
 have HC : CB7 w1 (w.heap.size) c:=by rw [hw1];exact BX7.new _ _ _
 refine vw (.pointer (some ⟨w.heap.size,0,none⟩)) w1 WN (ex_box8 rfl (ev s0 rfl) (by rw [hw1];exact bxC7 _ _)) rfl hz (by decide) (fun Z1 zz kk s3x => ?_);replace s1:=ku s1;replace s2:=ku s2;clear kk hz s0 hw1;have hz:=zz;have s3:=s3x;clear zz s3x;have hB:=hb;clear hb;have hv0 : Below w1.heap.size w1 w1:=BR;have Ya:=(((Rp.nil hz).cons s1).cons s2).cons s3;clear hz s1 s2 s3
 refine Ya.t (.bool false) (ex_assign rfl rfl) fun _ Yb => ?_;clear Ya
 have hz:=Yb.z;have s1:=Yb.a 1 rfl;have s2:=Yb.a 2 rfl;have s3:=Yb.a 3 rfl;clear Yb;refine WE ?_
 go_upto_region 1 with fail
 refine WL ?_;have Yc:=(((Rp.nil hz).cons s1).cons s2).cons s3;clear hz s1 s2 s3
 refine Yc.t _ (ex_move rfl (Yc.f 1)) fun _ Yd => ?_;clear Yc
 refine Yd.t _ (ex_fa rfl (Yd.f 3) (faC1 _ _)) fun _ Ye => ?_;clear Yd
 refine Ye.t _ (ex_ld rfl (Ye.f 8) (ldI8 (cell8 (HC.cell 1 _ rfl) hv0))) fun _ Yf => ?_;clear Ye
 refine vcall true (.int .i64 (lg L c.R)) WN (fun hc => ex_call rfl (by simp only [LA,LB,LC,(Yf.f 7),(Yf.f 9),evc] <;> rfl) rfl) (fun hc => reflog_any L la lc c.R w1 (hL.later (hB.trans (hv0.mono (by omega)))) hle) rfl Yf.z (by decide) (Yf.kc fun Yg x1 hb Yh => ?_);clear Yf;have hx1:=hv0.trans (hb.mono hv0.size);clear hb
 refine Yh.t (.bool (decide ((lg L c.R) = 0))) (ex_bin rfl (Yh.f 10) rfl (eqlC _ _ _ _ _)) fun _ Yi => ?_;clear Yh
 refine Yi.t _ (ex_move rfl (Yi.f 11)) fun _ Yj => ?_;clear Yi
 refine Yj.g 12 rfl rfl _ (fun hc => ex_move rfl (Yj.f 2)) fun Yk Yl => ?_;clear Yj
 refine Yl.g 12 rfl rfl (.bool (decide (0 ≤ x))) (fun hc => ex_bin rfl (Yl.v 13 hc) rfl (geqC _ _ _ _ _)) fun Ym Yn => ?_;clear Yl
 refine Yn.t (.bool ((decide ((lg L c.R) = 0)) && (decide (0 ≤ x)))) (ex_and rfl (Yn.a 12 rfl) (Yn.a 14 rfl) rfl) fun _ Yo => ?_;clear Yn
 refine Yo.t _ (ex_move rfl (Yo.f 15)) fun _ Yp => ?_;clear Yo
 refine Yp.g 16 rfl rfl _ (fun hc => ex_move rfl (Yp.f 2)) fun Yq Yr => ?_;clear Yp
 refine Yr.g 16 rfl rfl _ (fun hc => ex_move rfl (Yr.f 1)) fun Ys Yt => ?_;clear Yr
 refine Yt.g 16 rfl rfl _ (fun hc => ex_lenE8 rfl rfl (Yt.v 18 hc)) fun Yu Yv => ?_;clear Yt
 refine Yv.g 16 rfl rfl (.bool (decide (x ≤ (L.length : Int)))) (fun hc => ex_bin rfl (Yv.v 17 hc) (Yv.v 19 hc) (leqC8 _ _ _ _ _)) fun Yw Yx => ?_;clear Yv
 refine Yx.t (.bool (((decide ((lg L c.R) = 0)) && (decide (0 ≤ x))) && (decide (x ≤ (L.length : Int))))) (ex_and rfl (Yx.a 16 rfl) (Yx.a 20 rfl) rfl) fun _ Yy => ?_;clear Yx
 refine Yy.t _ (ex_assign rfl (Yy.f 21)) fun _ Yz => ?_;clear Yy
 have hz:=Yz.z;have s6:=Yz.a 6 rfl;clear Yz;refine WE ?_
 go_wp2
 refine bodyPost_ret (results_tmp rfl _ _ _) rfl ⟨?_,hB.trans (hx1.mono (by omega))⟩;rw [getD_of s6]
 rfl
def yI9 : Lay Int:=⟨3,134,1,8,fun x => [.int .i64 x],0⟩
theorem kI9 : yI9.Ok:=⟨by decide,fun x => rfl,fun x u h => by
  simp [yI9] at h
  subst h
  rfl,Tryz.underlying134,⟨.int .i64 0,by kernel_rfl,rfl⟩⟩
def yR9 : Lay (Int × Int):=⟨52,26,2,16,fun d => [.int .u64 d.1,.int .u64 d.2],(0,0)⟩
theorem kR9 : yR9.Ok:=⟨by decide,fun x => rfl,fun x u h => by
  simp [yR9] at h
  rcases h with rfl | rfl <;> rfl,Tryz.underlying26,⟨.agg #[.int .u64 0,.int .u64 0],by kernel_rfl,rfl⟩⟩
theorem ixI9 (q o n c i : Nat) (hi : i < n) (w : World) : (Instr.indexAt 134 (.slice (some ⟨q,o,none⟩) n c) (.int .i64 (i : Int))).run Tryz.prog w = .ok (.pointer (some ⟨q,o + i,none⟩)) w:=by
 have h1 : (i : Int) < (n : Int):=by omega
 go_simp
theorem ixR9 (q o n c i : Nat) (hi : i < n) (w : World) : (Instr.indexAt 26 (.slice (some ⟨q,o,none⟩) n c) (.int .i64 (i : Int))).run Tryz.prog w = .ok (.pointer (some ⟨q,o + i * 2,none⟩)) w:=by
 have h1 : (i : Int) < (n : Int):=by omega
 go_simp
theorem ex_lenI9 {o : Oper} {ρ : Operand → Value} {i : Nat} {a : Option Addr} {n k : Nat} {w : World} (ho : o.op = .call { callee:=.builtin .len,args:=#[.tmp i],argTypes:=#[134] }) (ht : o.type = 3) (hx : ρ (.tmp i) = .slice a n k) : (execOp ρ o).run Tryz.prog w = .ok (.value (.int .i64 (n : Int))) w:=by
 unfold execOp
 simp only [ho,resolve,invoke,builtin,Sem.run_bind,Sem.run_pure,Result.andThen_ok,LA,LB,LC,hx,ht]
 go_simp
theorem vec_at9 {w : World} {a : Option Addr} {n c : Nat} {V : List (Int × Int)} (h : SlY yD w a n c V) (hne : 0 < n) : ∃ q o,a = some ⟨q,o,none⟩∧∀ k : Int,0 ≤ k → k < (n : Int) → (∀ v,(Instr.indexAt 27 (.slice a n c) (.int .i64 k)).run Tryz.prog v = .ok (.pointer (some ⟨q,o + k.toNat * 2,none⟩)) v)∧∀ v,Below w.heap.size w v → (Instr.loadAt 52 (.pointer (some ⟨q,o + k.toNat * 2,none⟩))).run Tryz.prog v = .ok (.agg #[.int .u64 (V.getD k.toNat (0,0)).1,.int .u64 (V.getD k.toNat (0,0)).2]) v:=by
 have hl:=h.len;obtain ⟨q,o,e,hq,hlie⟩:=h.place (by rintro rfl;simp at hl;omega);refine ⟨q,o,e,fun k h1 h2 => ?_⟩;obtain ⟨q',o',e',hQ⟩:=vec_at8 h ⟨h1,h2⟩;rw [e] at e'
 cases e'
 exact hQ
def z3m : Mk:=⟨0,0,0⟩
def vbad9 (s : Sta) (n : Int) (X : List Mk) (i : Nat) : Bool:=(((decide ((X.getD i z3m).n < 0) || decide (n ≤ (X.getD i z3m).n)) || decide ((X.getD i z3m).n = s.self)) || (decide (0 < (i : Int)) && decide ((X.getD i z3m).n ≤ (X.getD (i - 1) z3m).n))) || (!decide (((X.getD i z3m).h,(X.getD i z3m).l) = s.V.getD (X.getD i z3m).n.toNat (0,0)))
def rv9 (s : Sta) (n : Int) (X : List Mk) : Bool:=(List.range X.length).all fun i => !vbad9 s n X i
theorem rv9_bad {s : Sta} {n : Int} {X : List Mk} {i : Nat} (hi : i < X.length) (h : vbad9 s n X i = true) : rv9 s n X = false:=by
 unfold rv9
 rw [List.all_eq_false]
 exact ⟨i,List.mem_range.2 hi,by rw [h];decide⟩
theorem rv9_ok {s : Sta} {n : Int} {X : List Mk} (h : ∀ i,i < X.length → vbad9 s n X i = false) : rv9 s n X = true:=by
 unfold rv9
 rw [List.all_eq_true];intro i hi;rw [h i (List.mem_range.1 hi)]
 rfl
theorem lie1_9 {α : Type} {Y : Lay α} {w : World} {a : Option Addr} {n c i : Nat} {L : List α} (h : SlY Y w a n c L) (hi : i < n) : ∃ q o x,a = some ⟨q,o,none⟩∧L[i]? = some x∧∀ j,j < n → ∀ y,L[j]? = some y → ∀ k u,(Y.cs y)[k]? = some u → w.cell? ⟨q,o + j * Y.k + k,none⟩ = some u:=by
 have hl:=h.len;obtain ⟨q,o,rfl,hq,hlie⟩:=h.place (by rintro rfl;simp at hl;omega)
 exact ⟨q,o,_,rfl,List.getElem?_eq_getElem (by omega),fun j _ y hy k u hu => hlie j y hy k u hu⟩
theorem and_c9 {a b : Bool} (h : (a && (b == true)) = true) : (true && (b == true)) = true:=by cases a <;> simp_all
theorem rvoters9 (s : Sta) (n : Int) (X : List Mk) (na da : Option Addr) (nc dc : Nat) (w : World) (hI : s.In w) (hn : n = (s.V.length : Int)) (hn1 : 0 < s.V.length) (hN : SlY yI9 w na X.length nc (X.map Mk.n)) (hD : SlY yR9 w da X.length dc (X.map fun x => (x.h,x.l))) : Calls Tryz.prog 81 #[s.val,.int .i64 n,.slice na X.length nc,.slice da X.length dc] w fun e w' => e = .returned (.bool (rv9 s n X))∧Below w.heap.size w w':=by
 go_enter Tryz.func81,Tryz.ntmps81
 go_upto_region 0 with fail
 refine WL ?_;refine vl_gen (fun T => T.size = 69∧T[0]? = some (gw true (s.val))∧T[1]? = some (gw true (.int .i64 n))∧T[2]? = some (gw true (.slice na X.length nc))∧T[3]? = some (gw true (.slice da X.length dc))) ⟨rfl,rfl,rfl,rfl,rfl⟩ (fun Z0 ⟨hz,s0,s1,s2,s3⟩ => ?_)
 obtain ⟨w1,hw1⟩ : ∃ y,y = w.alloc (.cells s.cs.toArray 33):=⟨_,rfl⟩
 have hb : Below w.heap.size w w1:=by rw [hw1];exact BR.alloc LR _
 have hs1 : w1.heap.size = w.heap.size + 1:=by rw [hw1];simp
 have HS : SB7 w1 (w.heap.size) s:=by rw [hw1];exact BX7.new _ _ _
 refine vw (.pointer (some ⟨w.heap.size,0,none⟩)) w1 WN (ex_box8 rfl (ev s0 rfl) (by rw [hw1];exact bxS7 _ _)) rfl hz (by decide) (fun Z1 zz kk s4x => ?_);replace s1:=ku s1;replace s2:=ku s2;replace s3:=ku s3;clear kk hz s0 hw1;have hz:=zz;have s4:=s4x;clear zz s4x;have hB:=hb;clear hb;have hv0 : Below w1.heap.size w1 w1:=BR;have Ya:=((((Rp.nil hz).cons s1).cons s2).cons s3).cons s4;clear hz s1 s2 s3 s4
 refine Ya.t (.bool false) (ex_assign rfl rfl) fun _ Yb => ?_;clear Ya
 have hz:=Yb.z;have s1:=Yb.a 1 rfl;have s2:=Yb.a 2 rfl;have s3:=Yb.a 3 rfl;have s4:=Yb.a 4 rfl;clear Yb;refine WE ?_
 go_upto_region 1 with fail
 refine WL ?_;have Yc:=((((Rp.nil hz).cons s1).cons s2).cons s3).cons s4;clear hz s1 s2 s3 s4
 refine Yc.t (.int .i64 0) (ex_assign rfl rfl) fun _ Yd => ?_;clear Yc
 have hz:=Yd.z;have s1:=Yd.a 1 rfl;have s2:=Yd.a 2 rfl;have s3:=Yd.a 3 rfl;have s4:=Yd.a 4 rfl;have s9:=Yd.a 9 rfl;clear Yd;refine WE ?_;have HI:=hI.later hB;have hN:=hN.later hB;have hD:=hD.later hB;have hmx:=hN.max;have hcp:=hN.cap
 unfold maxLen at hmx
 have hs9 : _ = some (gw true (.int .i64 ((0 : Nat) : Int))):=s9
 go_upto_region 2 with fail
 refine v_loop 9 X.length (fun i T wr => T.size = 69∧T[1]? = some (gw true (.int .i64 n))∧T[2]? = some (gw true (.slice na X.length nc))∧T[3]? = some (gw true (.slice da X.length dc))∧T[4]? = some (gw true (.pointer (some ⟨w.heap.size,0,none⟩)))∧T[9]? = some (gw true (.int .i64 (i : Int)))∧Hid (Below w1.heap.size w1 wr∧∀ k,k < i → vbad9 s n X k = false)) (fun i T w h => h.2.2.2.2.2.1) ⟨hz,s1,s2,s3,s4,hs9,BR,fun k hk => absurd hk (Nat.not_lt_zero _)⟩ ?_;clear hz s1 s2 s3 s4 s9 hs9;intro i R0 wr hi hh;obtain ⟨hz,s1,s2,s3,s4,s9,HJ⟩:=hh;have hbr:=HJ.out.1
 by_cases hit : i < X.length
 ·have d1 : decide ((i : Int) < (X.length : Int)) = true:=decide_eq_true (by omega)
  go_upto_region 2 with fail
  refine WL ?_;have Ye:=(((((Rp.nil hz).cons s1).cons s2).cons s3).cons s4).cons s9;clear hz s1 s2 s3 s4 s9
  refine Ye.t _ (ex_move rfl (Ye.f 9)) fun _ Yf => ?_;clear Ye
  refine Yf.t _ (ex_move rfl (Yf.f 2)) fun _ Yg => ?_;clear Yf
  refine Yg.t _ (ex_lenI9 rfl rfl (Yg.f 11)) fun _ Yh => ?_;clear Yg
  refine Yh.t (.bool true) (ex_bin rfl (Yh.f 10) (Yh.f 12) (lssD8 _ _ _ _ true d1 _)) fun _ Yi => ?_;clear Yh
  have hz:=Yi.z;have s1:=Yi.a 1 rfl;have s2:=Yi.a 2 rfl;have s3:=Yi.a 3 rfl;have s4:=Yi.a 4 rfl;have s9:=Yi.a 9 rfl;have s13:=Yi.a 13 rfl;clear Yi;refine WE ?_
  go_upto_region 4 with fail
  refine wp_cond_true ((ev s13 rfl).trans rfl) ?_;clear s13 d1
  obtain ⟨x,hx⟩ : ∃ x,x = X.getD i z3m:=⟨_,rfl⟩
  obtain ⟨y,hy⟩ : ∃ y,y = X.getD (i - 1) z3m:=⟨_,rfl⟩
  have hxi : X[i]? = some x:=by rw [hx];simp [List.getD,List.getElem?_eq_getElem hit]
  have hyi : X[i - 1]? = some y:=by rw [hy];simp [List.getD,List.getElem?_eq_getElem (show i - 1 < X.length by omega)]
  obtain ⟨qn,on,_,rfl,_,ln⟩:=lie1_9 hN hit;obtain ⟨qd,od,_,rfl,_,ldd⟩:=lie1_9 hD hit
  have e1 : w1.cell? ⟨qn,on + i,none⟩ = some (.int .i64 x.n):=by have h:=ln i hit x.n (by rw [List.getElem?_map,hxi];rfl) 0 _ rfl;rw [show on + i * yI9.k + 0 = on + i by show on + i * 1 + 0 = _;omega] at h;exact h
  have e2 : w1.cell? ⟨qn,on + (i - 1),none⟩ = some (.int .i64 y.n):=by have h:=ln (i - 1) (by omega) y.n (by rw [List.getElem?_map,hyi];rfl) 0 _ rfl;rw [show on + (i - 1) * yI9.k + 0 = on + (i - 1) by show on + (i - 1) * 1 + 0 = _;omega] at h;exact h
  have e3 : w1.cell? ⟨qd,od + i * 2,none⟩ = some (.int .u64 x.h):=ldd i hit (x.h,x.l) (by rw [List.getElem?_map,hxi];rfl) 0 _ rfl;have e4 : w1.cell? ⟨qd,od + i * 2 + 1,none⟩ = some (.int .u64 x.l):=ldd i hit (x.h,x.l) (by rw [List.getElem?_map,hxi];rfl) 1 _ rfl;obtain ⟨qv,ov,hva,HV⟩:=vec_at9 HI.v hn1
  have g1 : (true && (decide ((0 : Int) < (i : Int)) == true)) = true → 0 < i:=fun h => by simpa using h
  have gd9 : ∀ {b : Bool},(b && ((((decide (x.n < 0) || decide (n ≤ x.n)) || decide (x.n = s.self)) || (decide (0 < (i : Int)) && decide (x.n ≤ y.n))) == false)) = true → 0 ≤ x.n∧x.n < n:=fun h => by
   simp only [Bool.and_eq_true,beq_iff_eq,Bool.or_eq_false_iff,decide_eq_false_iff_not] at h
   omega
  go_upto_region 4 with fail
  refine vq_start (C:=fun v => Below w1.heap.size w1 v) (by kernel_rfl) (by kernel_rfl) hbr.drew ?_;have Yj:=(((((Rp.nil hz).cons s1).cons s2).cons s3).cons s4).cons s9;clear hz s1 s2 s3 s4 s9
  refine Yj.q _ (fun v hv => ex_move rfl (Yj.f 2)) fun _ Yk => ?_;clear Yj
  refine Yk.q _ (fun v hv => ex_move rfl (Yk.f 9)) fun _ Yl => ?_;clear Yk
  refine Yl.q _ (fun v hv => ex_ix rfl (Yl.f 16) (Yl.f 17) (ixI9 qn on X.length nc i hit _)) fun _ Ym => ?_;clear Yl
  refine Ym.q _ (fun v hv => ex_ld rfl (Ym.f 18) (ldI8 (cell8 e1 hv))) fun _ Yn => ?_;clear Ym
  refine Yn.q (.bool (decide (x.n < 0))) (fun v hv => ex_bin rfl (Yn.f 19) rfl (lssC _ _ _ _ _)) fun _ Yo => ?_;clear Yn
  refine Yo.q _ (fun v hv => ex_move rfl (Yo.f 20)) fun _ Yp => ?_;clear Yo
  refine Yp.gq 21 rfl rfl _ (fun hc v hv => ex_move rfl (Yp.f 2)) fun Yq Yr => ?_;clear Yp
  refine Yr.gq 21 rfl rfl _ (fun hc v hv => ex_move rfl (Yr.f 9)) fun Ys Yt => ?_;clear Yr
  refine Yt.gq 21 rfl rfl _ (fun hc v hv => ex_ix rfl (Yt.v 22 hc) (Yt.v 23 hc) (ixI9 qn on X.length nc i hit _)) fun Yu Yv => ?_;clear Yt
  refine Yv.gq 21 rfl rfl _ (fun hc v hv => ex_ld rfl (Yv.v 24 hc) (ldI8 (cell8 e1 hv))) fun Yw Yx => ?_;clear Yv
  refine Yx.gq 21 rfl rfl _ (fun hc v hv => ex_move rfl (Yx.f 1)) fun Yy Yz => ?_;clear Yx
  refine Yz.gq 21 rfl rfl (.bool (decide (n ≤ x.n))) (fun hc v hv => ex_bin rfl (Yz.v 25 hc) (Yz.v 26 hc) (geqC _ _ _ _ _)) fun Y0 Y1 => ?_;clear Yz
  refine Y1.q (.bool ((decide (x.n < 0)) || (decide (n ≤ x.n)))) (fun v hv => ex_or rfl (Y1.a 21 rfl) (Y1.a 27 rfl) rfl) fun _ Y2 => ?_;clear Y1
  refine Y2.q _ (fun v hv => ex_move rfl (Y2.f 28)) fun _ Y3 => ?_;clear Y2
  refine Y3.gq 29 rfl rfl _ (fun hc v hv => ex_move rfl (Y3.f 2)) fun Y4 Y5 => ?_;clear Y3
  refine Y5.gq 29 rfl rfl _ (fun hc v hv => ex_move rfl (Y5.f 9)) fun Y6 Y7 => ?_;clear Y5
  refine Y7.gq 29 rfl rfl _ (fun hc v hv => ex_ix rfl (Y7.v 30 hc) (Y7.v 31 hc) (ixI9 qn on X.length nc i hit _)) fun Y8 Y9 => ?_;clear Y7
  refine Y9.gq 29 rfl rfl _ (fun hc v hv => ex_ld rfl (Y9.v 32 hc) (ldI8 (cell8 e1 hv))) fun Yba Ybb => ?_;clear Y9
  refine Ybb.gq 29 rfl rfl _ (fun hc v hv => ex_fa rfl (Ybb.f 4) (faS0 _ _)) fun Ybc Ybd => ?_;clear Ybb
  refine Ybd.gq 29 rfl rfl _ (fun hc v hv => ex_ld rfl (Ybd.v 34 hc) (ldI8 (cell8 (HS.cell 0 _ rfl) hv))) fun Ybe Ybf => ?_;clear Ybd
  refine Ybf.gq 29 rfl rfl (.bool (decide (x.n = s.self))) (fun hc v hv => ex_bin rfl (Ybf.v 33 hc) (Ybf.v 35 hc) (eqlC _ _ _ _ _)) fun Ybg Ybh => ?_;clear Ybf
  refine Ybh.q (.bool (((decide (x.n < 0)) || (decide (n ≤ x.n))) || (decide (x.n = s.self)))) (fun v hv => ex_or rfl (Ybh.a 29 rfl) (Ybh.a 36 rfl) rfl) fun _ Ybi => ?_;clear Ybh
  refine Ybi.q _ (fun v hv => ex_move rfl (Ybi.f 37)) fun _ Ybj => ?_;clear Ybi
  refine Ybj.gq 38 rfl rfl _ (fun hc v hv => ex_move rfl (Ybj.f 9)) fun Ybk Ybl => ?_;clear Ybj
  refine Ybl.gq 38 rfl rfl (.bool (decide (0 < (i : Int)))) (fun hc v hv => ex_bin rfl (Ybl.v 39 hc) rfl (gtrC _ _ _ _ _)) fun Ybm Ybn => ?_;clear Ybl
  refine Ybn.gq 38 rfl rfl _ (fun hc v hv => ex_move rfl (Ybn.v 40 hc)) fun Ybo Ybp => ?_;clear Ybn
  refine Ybp.gq 41 rfl rfl _ (fun hc v hv => ex_move rfl (Ybp.f 2)) fun Ybq Ybr => ?_;clear Ybp
  refine Ybr.gq 41 rfl rfl _ (fun hc v hv => ex_move rfl (Ybr.f 9)) fun Ybs Ybt => ?_;clear Ybr
  refine Ybt.gq 41 rfl rfl _ (fun hc v hv => ex_ix rfl (Ybt.v 42 hc) (Ybt.v 43 hc) (ixI9 qn on X.length nc i hit _)) fun Ybu Ybv => ?_;clear Ybt
  refine Ybv.gq 41 rfl rfl _ (fun hc v hv => ex_ld rfl (Ybv.v 44 hc) (ldI8 (cell8 e1 hv))) fun Ybw Ybx => ?_;clear Ybv
  refine Ybx.gq 41 rfl rfl _ (fun hc v hv => ex_move rfl (Ybx.f 2)) fun Yby Ybz => ?_;clear Ybx
  refine Ybz.gq 41 rfl rfl _ (fun hc v hv => ex_move rfl (Ybz.f 9)) fun Yb0 Yb1 => ?_;clear Ybz
  refine Yb1.gq 41 rfl rfl (.int .i64 ((i - 1 : Nat) : Int)) (fun hc v hv => ex_bin rfl (Yb1.v 47 hc) rfl (subD8 _ _ _ 1 ((i - 1 : Nat) : Int) (by have:=g1 (by first | exact hc | exact and_c9 hc);rw [IntKind.wrap_i64];omega) _)) fun Yb2 Yb3 => ?_;clear Yb1
  refine Yb3.gq 41 rfl rfl (.pointer (some ⟨qn,on + (i - 1),none⟩)) (fun hc v hv => ex_ix rfl (Yb3.v 46 hc) (Yb3.v 48 hc) (ixI9 qn on X.length nc (i - 1) (by omega) _)) fun Yb4 Yb5 => ?_;clear Yb3
  refine Yb5.gq 41 rfl rfl _ (fun hc v hv => ex_ld rfl (Yb5.v 49 hc) (ldI8 (cell8 e2 hv))) fun Yb6 Yb7 => ?_;clear Yb5
  refine Yb7.gq 41 rfl rfl (.bool (decide (x.n ≤ y.n))) (fun hc v hv => ex_bin rfl (Yb7.v 45 hc) (Yb7.v 50 hc) (leqC8 _ _ _ _ _)) fun Yb8 Yb9 => ?_;clear Yb7
  refine Yb9.gq 38 rfl rfl (.bool ((decide (0 < (i : Int))) && (decide (x.n ≤ y.n)))) (fun hc v hv => ex_and rfl (Yb9.a 41 rfl) (Yb9.a 51 rfl) hc) fun Yca Ycb => ?_;clear Yb9
  refine Ycb.q (.bool ((((decide (x.n < 0)) || (decide (n ≤ x.n))) || (decide (x.n = s.self))) || ((decide (0 < (i : Int))) && (decide (x.n ≤ y.n))))) (fun v hv => ex_or rfl (Ycb.a 38 rfl) (Ycb.a 52 rfl) rfl) fun _ Ycc => ?_;clear Ycb
  refine Ycc.q _ (fun v hv => ex_move rfl (Ycc.f 53)) fun _ Ycd => ?_;clear Ycc
  refine Ycd.gq 54 rfl rfl _ (fun hc v hv => ex_move rfl (Ycd.f 3)) fun Yce Ycf => ?_;clear Ycd
  refine Ycf.gq 54 rfl rfl _ (fun hc v hv => ex_move rfl (Ycf.f 9)) fun Ycg Ych => ?_;clear Ycf
  refine Ych.gq 54 rfl rfl _ (fun hc v hv => ex_ix rfl (Ych.v 55 hc) (Ych.v 56 hc) (ixR9 qd od X.length dc i hit _)) fun Yci Ycj => ?_;clear Ych
  refine Ycj.gq 54 rfl rfl _ (fun hc v hv => ex_ld rfl (Ycj.v 57 hc) (ldDr8 (d:=(x.h,x.l)) (cell8 e3 hv) (cell8 e4 hv))) fun Yck Ycl => ?_;clear Ycj
  refine Ycl.gq 54 rfl rfl _ (fun hc v hv => ex_fa rfl (Ycl.f 4) (faS6 _ _)) fun Ycm Ycn => ?_;clear Ycl
  refine Ycn.gq 54 rfl rfl _ (fun hc v hv => ex_ld rfl (Ycn.v 59 hc) (ldV8 (cell8 (HS.cell 6 _ rfl) hv))) fun Yco Ycp => ?_;clear Ycn
  refine Ycp.gq 54 rfl rfl _ (fun hc v hv => ex_move rfl (Ycp.f 2)) fun Ycq Ycr => ?_;clear Ycp
  refine Ycr.gq 54 rfl rfl _ (fun hc v hv => ex_move rfl (Ycr.f 9)) fun Ycs Yct => ?_;clear Ycr
  refine Yct.gq 54 rfl rfl _ (fun hc v hv => ex_ix rfl (Yct.v 61 hc) (Yct.v 62 hc) (ixI9 qn on X.length nc i hit _)) fun Ycu Ycv => ?_;clear Yct
  refine Ycv.gq 54 rfl rfl _ (fun hc v hv => ex_ld rfl (Ycv.v 63 hc) (ldI8 (cell8 e1 hv))) fun Ycw Ycx => ?_;clear Ycv
  refine Ycx.gq 54 rfl rfl (.pointer (some ⟨qv,ov + x.n.toNat * 2,none⟩)) (fun hc v hv => ex_ix rfl (Ycx.v 60 hc) (Ycx.v 64 hc) ((HV x.n (gd9 hc).1 (by have:=(gd9 hc).2;omega)).1 _)) fun Ycy Ycz => ?_;clear Ycx
  refine Ycz.gq 54 rfl rfl (.agg #[.int .u64 (s.V.getD x.n.toNat (0,0)).1,.int .u64 (s.V.getD x.n.toNat (0,0)).2]) (fun hc v hv => ex_ld rfl (Ycz.v 65 hc) ((HV x.n (gd9 hc).1 (by have:=(gd9 hc).2;omega)).2 _ hv)) fun Yc0 Yc1 => ?_;clear Ycz
  refine Yc1.gq 54 rfl rfl (.bool (!decide ((x.h,x.l) = (s.V.getD x.n.toNat (0,0))))) (fun hc v hv => ex_bin rfl (Yc1.v 58 hc) (Yc1.v 66 hc) (neqDr7 _ _ (x.h,x.l) (s.V.getD x.n.toNat (0,0)) _)) fun Yc2 Yc3 => ?_;clear Yc1
  refine Yc3.q (.bool (((((decide (x.n < 0)) || (decide (n ≤ x.n))) || (decide (x.n = s.self))) || ((decide (0 < (i : Int))) && (decide (x.n ≤ y.n)))) || (!decide ((x.h,x.l) = (s.V.getD x.n.toNat (0,0)))))) (fun v hv => ex_or rfl (Yc3.a 54 rfl) (Yc3.a 67 rfl) rfl) fun _ Yc4 => ?_;clear Yc3
  have hz:=Yc4.z;have s1:=Yc4.a 1 rfl;have s2:=Yc4.a 2 rfl;have s3:=Yc4.a 3 rfl;have s4:=Yc4.a 4 rfl;have s9:=Yc4.a 9 rfl;have s68:=Yc4.a 68 rfl;clear Yc4;refine vq_nil (fun x1 hx1 => ?_)
  have ee : ((((((decide (x.n < 0)) || (decide (n ≤ x.n))) || (decide (x.n = s.self))) || ((decide (0 < (i : Int))) && (decide (x.n ≤ y.n)))) || (!decide ((x.h,x.l) = (s.V.getD x.n.toNat (0,0)))))) = vbad9 s n X i:=by unfold vbad9;rw [← hx,← hy]
  go_upto_region 5 with fail
  cases eb : vbad9 s n X i
  rotate_left
  ·refine wp_cond_true ((ev s68 rfl).trans (by rw [ee,eb])) ?_
   go_upto_region 5 with fail
   refine WL ?_;have Yc5:=(((((Rp.nil hz).cons s1).cons s2).cons s3).cons s4).cons s9;clear hz s1 s2 s3 s4 s9
   refine Yc5.t (.bool false) (ex_assign rfl rfl) fun _ Yc6 => ?_;clear Yc5
   have hz:=Yc6.z;have s8:=Yc6.a 8 rfl;clear Yc6;refine WE ?_;have HR:=hide (rv9_bad hit eb)
   go_wp2
   refine bodyPost_ret (results_tmp rfl _ _ _) rfl ⟨?_,hB.trans (hx1.mono (by omega))⟩;rw [getD_of s8,HR.out]
   rfl
  refine wp_cond_false ((ev s68 rfl).trans (by rw [ee,eb])) ?_;clear s68
  go_upto_region 3 with fail
  refine WL ?_;have Yc7:=(((((Rp.nil hz).cons s1).cons s2).cons s3).cons s4).cons s9;clear hz s1 s2 s3 s4 s9
  refine Yc7.t _ (ex_move rfl (Yc7.f 9)) fun _ Yc8 => ?_;clear Yc7
  refine Yc8.t (.int .i64 ((i + 1 : Nat) : Int)) (ex_bin rfl (Yc8.f 14) rfl (addD8 _ _ _ 1 ((i + 1 : Nat) : Int) (by rw [IntKind.wrap_i64];omega) _)) fun _ Yc9 => ?_;clear Yc8
  refine Yc9.t _ (ex_assign rfl (Yc9.f 15)) fun _ Yda => ?_;clear Yc9
  have hz:=Yda.z;have s1:=Yda.a 1 rfl;have s2:=Yda.a 2 rfl;have s3:=Yda.a 3 rfl;have s4:=Yda.a 4 rfl;have s9:=Yda.a 9 rfl;clear Yda;refine WE ?_
  exact ⟨_,rfl,by omega,hz,s1,s2,s3,s4,s9,hx1,fun k hk => by
   by_cases e : k = i
   ·subst e;exact eb
   ·exact HJ.out.2 k (by omega)⟩
 ·have d1 : decide ((i : Int) < (X.length : Int)) = false:=decide_eq_false (by omega)
  go_upto_region 2 with fail
  refine WL ?_;have Ydb:=(((((Rp.nil hz).cons s1).cons s2).cons s3).cons s4).cons s9;clear hz s1 s2 s3 s4 s9
  refine Ydb.t _ (ex_move rfl (Ydb.f 9)) fun _ Ydc => ?_;clear Ydb
  refine Ydc.t _ (ex_move rfl (Ydc.f 2)) fun _ Ydd => ?_;clear Ydc
  refine Ydd.t _ (ex_lenI9 rfl rfl (Ydd.f 11)) fun _ Yde => ?_;clear Ydd
  refine Yde.t (.bool false) (ex_bin rfl (Yde.f 10) (Yde.f 12) (lssD8 _ _ _ _ false d1 _)) fun _ Ydf => ?_;clear Yde
  have hz:=Ydf.z;have s13:=Ydf.a 13 rfl;clear Ydf;refine WE ?_
  go_upto_region 6 with fail
  refine wp_cond_false ((ev s13 rfl).trans rfl) ?_;clear s13 d1
  go_upto_region 6 with fail
  refine WL ?_;have Ydg:=Rp.nil hz;clear hz
  refine Ydg.t (.bool true) (ex_assign rfl rfl) fun _ Ydh => ?_;clear Ydg
  have hz:=Ydh.z;have s8:=Ydh.a 8 rfl;clear Ydh;refine WE ?_;have HR:=hide (rv9_ok (s:=s) (n:=n) (X:=X) (fun k hk => HJ.out.2 k (by omega)))
  go_wp2
  refine bodyPost_ret (results_tmp rfl _ _ _) rfl ⟨?_,hB.trans (hbr.mono (by omega))⟩;rw [getD_of s8,HR.out]
  rfl
end Go.Proofs.YtpcgnjpodnebpaaGreatDoor
