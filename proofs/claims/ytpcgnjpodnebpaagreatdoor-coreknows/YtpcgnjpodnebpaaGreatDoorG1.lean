import Derived.RangeFuncOwn
import Derived.RangeFuncCalls
import Derived.RangeFuncLeaves
import Derived.Shelf.Abstract
import Derived.OwnWalkIn
import Derived.TacticsInMore
import Derived.LoopNIn
import Derived.LoopIn
import Derived.BigQuiet
import Derived.Handy
import Derived.Deep.RegionHeld3
import Derived.Test.YtpcgnjpodnebpaaGreatDoorG0
set_option maxRecDepth 100000
set_option linter.unusedVariables false
set_option linter.unusedSimpArgs false
set_option maxHeartbeats 8000000
namespace Go.Proofs.YtpcgnjpodnebpaaGreatDoor
open Go.RowKit Go.Maps
open Classical
theorem v_loop {c : Code} {Q : Exit → Act → World → Prop} {T0 : Array Value} {w0 : World} (x N : Nat) (I : Nat → Array Value → World → Prop) (hx : ∀ j T w,I j T w → T[x]? = some (gw true (.int .i64 (j : Int)))) (h0 : I 0 T0 w0)
  (round : ∀ j T w,j ≤ N → I j T w → c.wp Tryz.prog (Exit.then (fun a' w' => ∃ T',a' = ⟨T',[]⟩∧j + 1 ≤ N∧I (j + 1) T' w') Q) ⟨T,[]⟩ w) : (Code.loop c).wp Tryz.prog Q ⟨T0,[]⟩ w0:=by
 have sl : ∀ {j : Nat} {T : Array Value} {w : World},I j T w → (intOf (T.getD x undef)).toNat = j:=fun h => by
  rw [getD_of (hx _ _ _ h)]
  show (intOf (.int .i64 _)).toNat = _
  simp [intOf]
 refine wp_loop (fun a w => ∃ j T,a = ⟨T,[]⟩∧j ≤ N∧I j T w) (fun a w => N - (intOf (a.tmps.getD x undef)).toNat) ⟨0,T0,rfl,Nat.zero_le _,h0⟩ ?_;rintro a w ⟨j,T,rfl,hj,hI⟩;refine Code.wp_mono (fun e a' w' h => ?_) (round j T w hj hI)
 cases e with
 | normal =>
  obtain ⟨T',rfl,hj',hI'⟩:=h;refine ⟨⟨j + 1,T',rfl,hj',hI'⟩,?_⟩
  show N - (intOf (T'.getD x undef)).toNat < N - (intOf (T.getD x undef)).toNat
  rw [sl hI',sl hI]
  omega
 | _ => exact h
theorem vw {ops : Array Oper} {rest : List Oper} {o : Oper} {T : Array Value} {df : List Deferred} {w : World} {Q : Exit → Act → World → Prop} {d n : Nat} (V : Value) (w' : World) (hw : Region.wanted o (yielded ops T) = true) (he : (execOp (⟨T,df⟩ : Act).eval o).run Tryz.prog w = .ok (.value V) w') (hd : o.dst = some d) (hz : T.size = n) (hn : d < n)
  (hk : ∀ T' : Array Value,T'.size = n → (∀ i,i ≠ d → T'[i]? = T[i]?) → T'[d]? = some (gw true V) → wpList Tryz.prog ops Q rest ⟨T',df⟩ w') : wpList Tryz.prog ops Q (o :: rest) ⟨T,df⟩ w:=by
 refine BigFrame.wpList_want hw (fun K hK => ?_)
 unfold Oper.wp
 rw [he,Oper.upon_value];refine hK _ _ ?_;rw [hd]
 exact hk (T.setIfInBounds d V) (by simp [hz]) (fun i hi => at_set_ne _ hi) (at_set _ (by omega))
theorem vs {ops : Array Oper} {rest : List Oper} {o : Oper} {T : Array Value} {df : List Deferred} {w : World} {Q : Exit → Act → World → Prop} (w' : World) (hw : Region.wanted o (yielded ops T) = true) (he : (execOp (⟨T,df⟩ : Act).eval o).run Tryz.prog w = .ok .skip w') (hd : o.dst = none)
  (hk : wpList Tryz.prog ops Q rest ⟨T,df⟩ w') : wpList Tryz.prog ops Q (o :: rest) ⟨T,df⟩ w:=by
 refine BigFrame.wpList_want hw (fun K hK => ?_)
 unfold Oper.wp
 rw [he,Oper.upon_skip];refine hK _ _ ?_;rw [hd]
 exact hk
theorem ex_st {o : Oper} {ρ : Operand → Value} {s : TypeId} {x y : Operand} {X Y : Value} {w w' : World} (ho : o.op = .store s x y) (hx : ρ x = X) (hy : ρ y = Y) (hr : (Instr.storeAt s X Y).run Tryz.prog w = .ok () w') : (execOp ρ o).run Tryz.prog w = .ok .skip w':=by
 unfold execOp
 simp only [ho,hx,hy,Sem.run_bind,hr,Result.andThen_ok]
 rfl
theorem ex_al {o : Oper} {ρ : Operand → Value} {s : TypeId} {V : Value} {w w' : World} (ho : o.op = .alloc s) (hr : (Instr.alloc s true (.tuple #[])).run Tryz.prog w = .ok V w') : (execOp ρ o).run Tryz.prog w = .ok (.value V) w':=by
 unfold execOp
 simp only [ho,Sem.run_bind,hr,Result.andThen_ok]
 rfl
/-! What is known of a frame,as one fact: which slot holds what;a step adds one,nothing is carried over by hand. -/
def look : List (Nat × Value) → Nat → Option Value
 | [],_ => none
 | (k,v) :: r,j => bif Nat.beq k j then some v else look r j
structure Rp (T : Array Value) (n : Nat) (L : List (Nat × Value)) : Prop where
 z : T.size = n
 at_ : ∀ j v,look L j = some v → T[j]? = some v
theorem Rp.a {T : Array Value} {n : Nat} {L : List (Nat × Value)} (h : Rp T n L) (j : Nat) {v : Value} (e : look L j = some v) : T[j]? = some v:=h.at_ j v e
theorem Rp.nil {T : Array Value} {n : Nat} (h : T.size = n) : Rp T n []:=⟨h,fun j v e => by cases e⟩
theorem Rp.cons {T : Array Value} {n : Nat} {L : List (Nat × Value)} (h : Rp T n L) {j : Nat} {v : Value} (e : T[j]? = some v) : Rp T n ((j,v) :: L):=⟨h.z,fun i x hx => by
 unfold look at hx
 cases hb : Nat.beq j i with
 | true =>
  rw [hb] at hx;have:=Nat.eq_of_beq_eq_true hb;subst this
  cases hx
  exact e
 | false =>
  rw [hb] at hx
  exact h.at_ i x hx⟩
theorem Rp.k {T : Array Value} {n d : Nat} {L : List (Nat × Value)} {c : Bool} {V : Value} {G : Array Value → Prop} (h : Rp T n L) (g : ∀ T',Rp T' n ((d,gw c V) :: L) → G T') : ∀ T',T'.size = n → (∀ j,j ≠ d → T'[j]? = T[j]?) → T'[d]? = some (gw c V) → G T':=fun T' z k s => g T' ⟨z,fun i x hx => by
 unfold look at hx
 cases hb : Nat.beq d i with
 | true =>
  rw [hb] at hx;have:=Nat.eq_of_beq_eq_true hb;subst this
  cases hx
  exact s
 | false =>
  rw [hb] at hx
  have hne : i ≠ d:=fun e => by subst e;rw [Nat.beq_refl] at hb;cases hb
  exact (k i hne).trans (h.at_ i x hx)⟩
theorem Rp.kc {T : Array Value} {n d : Nat} {L : List (Nat × Value)} {c : Bool} {V : Value} {R : World → Prop} {G : Array Value → World → Prop} (h : Rp T n L) (g : ∀ T' w',R w' → Rp T' n ((d,gw c V) :: L) → G T' w') : ∀ T' w',R w' → T'.size = n → (∀ j,j ≠ d → T'[j]? = T[j]?) → T'[d]? = some (gw c V) → G T' w':=fun T' w' r => h.k (G:=fun T'' => G T'' w') (fun T'' q => g T'' w' r q) T'
theorem Rp.e {T : Array Value} {n : Nat} {L : List (Nat × Value)} (h : Rp T n L) {df : List Deferred} {j : Nat} {v : Value} (e : look L j = some (gw true v)) : (⟨T,df⟩ : Act).eval (.tmp j) = v:=ev (h.at_ j _ e) rfl
theorem Rp.f {T : Array Value} {n : Nat} {L : List (Nat × Value)} (h : Rp T n L) (j : Nat) {df : List Deferred} {v : Value} (e : look L j = some (gw true v):=by rfl) : (⟨T,df⟩ : Act).eval (.tmp j) = v:=ev (h.at_ j _ e) rfl
theorem Rp.t {T : Array Value} {n d : Nat} {L : List (Nat × Value)} {ops : Array Oper} {rest : List Oper} {o : Oper} {df : List Deferred} {w : World} {Q : Exit → Act → World → Prop} (h : Rp T n L) (V : Value) (he : (execOp (⟨T,df⟩ : Act).eval o).run Tryz.prog w = .ok (.value V) w) (hk : ∀ T',Rp T' n ((d,gw true V) :: L) → wpList Tryz.prog ops Q rest ⟨T',df⟩ w) (hg : o.guard = none:=by rfl) (hd : o.dst = some d:=by rfl) (hn : d < n:=by decide) : wpList Tryz.prog ops Q (o :: rest) ⟨T,df⟩ w :=
 vl true V (want_none hg) (fun _ => he) hd h.z hn (h.k hk)
theorem Rp.q {T : Array Value} {n d : Nat} {L : List (Nat × Value)} {ops : Array Oper} {rest : List Oper} {o : Oper} {df : List Deferred} {C : World → Prop} {Q : Act → Prop} (h : Rp T n L) (V : Value) (he : ∀ v,C v → (execOp (⟨T,df⟩ : Act).eval o).run Tryz.prog v = .ok (.value V) v) (hk : ∀ T',Rp T' n ((d,gw true V) :: L) → VJ ops C Q rest ⟨T',df⟩) (hg : o.guard = none:=by rfl) (hd : o.dst = some d:=by rfl) (hn : d < n:=by decide) : VJ ops C Q (o :: rest) ⟨T,df⟩ :=
 vq true V (want_none hg) (fun _ => he) hd h.z hn (h.k hk)
theorem Rp.g {T : Array Value} {n d g : Nat} {L : List (Nat × Value)} {ops : Array Oper} {rest : List Oper} {o : Oper} {df : List Deferred} {w : World} {Q : Exit → Act → World → Prop} {pol b c : Bool} (h : Rp T n L) (j : Nat) (hg : o.guard = some (g,pol)) (hj : look L j = some (gw c (.bool b))) (V : Value) (he : (c && (b == pol)) = true → (execOp (⟨T,df⟩ : Act).eval o).run Tryz.prog w = .ok (.value V) w) (hk : ∀ T',Rp T' n ((d,gw (c && (b == pol)) V) :: L) → wpList Tryz.prog ops Q rest ⟨T',df⟩ w) (ho : (ops[g]?).bind (·.dst) = some j:=by rfl) (hd : o.dst = some d:=by rfl) (hn : d < n:=by decide) : wpList Tryz.prog ops Q (o :: rest) ⟨T,df⟩ w :=
 vl (c && (b == pol)) V (want_g hg ho (h.at_ j _ hj)) he hd h.z hn (h.k hk)
theorem Rp.gq {T : Array Value} {n d g : Nat} {L : List (Nat × Value)} {ops : Array Oper} {rest : List Oper} {o : Oper} {df : List Deferred} {C : World → Prop} {Q : Act → Prop} {pol b c : Bool} (h : Rp T n L) (j : Nat) (hg : o.guard = some (g,pol)) (hj : look L j = some (gw c (.bool b))) (V : Value) (he : (c && (b == pol)) = true → ∀ v,C v → (execOp (⟨T,df⟩ : Act).eval o).run Tryz.prog v = .ok (.value V) v) (hk : ∀ T',Rp T' n ((d,gw (c && (b == pol)) V) :: L) → VJ ops C Q rest ⟨T',df⟩) (ho : (ops[g]?).bind (·.dst) = some j:=by rfl) (hd : o.dst = some d:=by rfl) (hn : d < n:=by decide) : VJ ops C Q (o :: rest) ⟨T,df⟩ :=
 vq (c && (b == pol)) V (want_g hg ho (h.at_ j _ hj)) he hd h.z hn (h.k hk)
theorem Rp.v {T : Array Value} {n : Nat} {L : List (Nat × Value)} (h : Rp T n L) {df : List Deferred} (j : Nat) {c : Bool} {X : Value} (hc : c = true) (e : look L j = some (gw c X):=by rfl) : (⟨T,df⟩ : Act).eval (.tmp j) = X:=ev (h.at_ j _ e) hc
theorem Rp.u {T : Array Value} {n d g : Nat} {L : List (Nat × Value)} {ops : Array Oper} {rest : List Oper} {o : Oper} {df : List Deferred} {w : World} {Q : Exit → Act → World → Prop} (h : Rp T n L) (j : Nat) (hg : o.guard = some (g,true)) (V : Value) (he : (execOp (⟨T,df⟩ : Act).eval o).run Tryz.prog w = .ok (.value V) w) (hk : ∀ T',Rp T' n ((d,gw true V) :: L) → wpList Tryz.prog ops Q rest ⟨T',df⟩ w) (ho : (ops[g]?).bind (·.dst) = some j:=by rfl) (hj : look L j = some (gw true (.bool true)):=by rfl) (hd : o.dst = some d:=by rfl) (hn : d < n:=by decide) : wpList Tryz.prog ops Q (o :: rest) ⟨T,df⟩ w :=
 vl true V (show Region.wanted _ _ = (true && (true == true)) from want_g hg ho (h.at_ j _ hj)) (fun _ => he) hd h.z hn (h.k hk)
theorem Rp.h {ops : Array Oper} {o : Oper} {T : Array Value} {df : List Deferred} {w : World} {Q : Exit → Act → World → Prop} {S : World → Prop} {fuel d n : Nat} {listed : Array Bool} {L : List (Nat × Value)} (h : Rp T n L) (i : Nat) (hi : ops[i]? = some o) (V : Value) (he : ∀ v,S v → (execOp (⟨T,df⟩ : Act).eval o).run Tryz.prog v = .ok (.value V) v) (hS : S w) (hk : ∀ T',Rp T' n ((d,gw true V) :: L) → VH ops Q S fuel (listed.setIfInBounds i true) ⟨T',df⟩ w) (hs : Region.noSelect ops = true:=by kernel_rfl) (hf : Region.free .any ops listed i = true:=by kernel_rfl) (hr : (Region.ready .any ops listed).contains i = true:=by kernel_rfl) (hg : o.guard = none:=by rfl) (hd : o.dst = some d:=by rfl) (hn : d < n:=by decide) : VH ops Q S (fuel + 1) listed ⟨T,df⟩ w :=
 vh_take i true V hi hs hf hr (want_none hg) (fun _ => he) hd h.z hn hS (h.k hk)
theorem Rp.hg {ops : Array Oper} {o : Oper} {T : Array Value} {df : List Deferred} {w : World} {Q : Exit → Act → World → Prop} {S : World → Prop} {fuel d n g : Nat} {listed : Array Bool} {L : List (Nat × Value)} {pol b c : Bool} (h : Rp T n L) (i j : Nat) (hi : ops[i]? = some o) (hg : o.guard = some (g,pol)) (hj : look L j = some (gw c (.bool b))) (V : Value) (he : (c && (b == pol)) = true → ∀ v,S v → (execOp (⟨T,df⟩ : Act).eval o).run Tryz.prog v = .ok (.value V) v) (hS : S w) (hk : ∀ T',Rp T' n ((d,gw (c && (b == pol)) V) :: L) → VH ops Q S fuel (listed.setIfInBounds i true) ⟨T',df⟩ w) (hs : Region.noSelect ops = true:=by kernel_rfl) (hf : Region.free .any ops listed i = true:=by kernel_rfl) (hr : (Region.ready .any ops listed).contains i = true:=by kernel_rfl) (ho : (ops[g]?).bind (·.dst) = some j:=by rfl) (hd : o.dst = some d:=by rfl) (hn : d < n:=by decide) : VH ops Q S (fuel + 1) listed ⟨T,df⟩ w :=
 vh_take i (c && (b == pol)) V hi hs hf hr (want_g hg ho (h.at_ j _ hj)) he hd h.z hn hS (h.k hk)
theorem Rp.w {ops : Array Oper} {o : Oper} {T : Array Value} {df : List Deferred} {w : World} {Q : Exit → Act → World → Prop} {S : World → Prop} {fuel d n : Nat} {listed : Array Bool} {L : List (Nat × Value)} {fid : FuncId} {args : Array Value} {R : Ending → World → Prop} (h : Rp T n L) (i : Nat) (hi : ops[i]? = some o) (he : (execOp (⟨T,df⟩ : Act).eval o).run Tryz.prog w = .ok (.enter fid args) w) (hc : Calls Tryz.prog fid args w R) (hk : ∀ (e : Ending) (w' : World),R e w' → ∃ V,e = .returned V∧S w'∧∀ T' : Array Value,T'.size = n → (∀ j,j ≠ d → T'[j]? = T[j]?) → T'[d]? = some (gw true V) → VH ops Q S fuel (listed.setIfInBounds i true) ⟨T',df⟩ w') (hr : Region.ready .any ops listed = [i]:=by kernel_rfl) (hg : o.guard = none:=by rfl) (hd : o.dst = some d:=by rfl) (hn : d < n:=by decide) : VH ops Q S (fuel + 1) listed ⟨T,df⟩ w:=vh_call i hi hr (want_none hg) he hc hd h.z hn hk
theorem Rp.c {ops : Array Oper} {rest : List Oper} {o : Oper} {T : Array Value} {df : List Deferred} {w : World} {Q : Exit → Act → World → Prop} {d n : Nat} {L : List (Nat × Value)} {fid : FuncId} {args : Array Value} {R : Ending → World → Prop} (h : Rp T n L) (he : (execOp (⟨T,df⟩ : Act).eval o).run Tryz.prog w = .ok (.enter fid args) w) (hc : Calls Tryz.prog fid args w R) (hk : ∀ (e : Ending) (w' : World),R e w' → ∃ V,e = .returned V∧∀ T' : Array Value,T'.size = n → (∀ i,i ≠ d → T'[i]? = T[i]?) → T'[d]? = some (gw true V) → wpList Tryz.prog ops Q rest ⟨T',df⟩ w') (hg : o.guard = none:=by rfl) (hd : o.dst = some d:=by rfl) (hn : d < n:=by decide) : wpList Tryz.prog ops Q (o :: rest) ⟨T,df⟩ w:=vcallP (want_none hg) he hc hd h.z hn hk
end Go.Proofs.YtpcgnjpodnebpaaGreatDoor
namespace Go.Proofs.YtpcgnjpodnebpaaGreatDoor
open Go.RowKit Go.Maps
open Classical
variable {α : Type} {Y : Lay α}
def put (M : List α) (i : Nat) (D : List α) : List α:=M.take i ++ D ++ M.drop (i + D.length)
theorem put_length {M D : List α} {i : Nat} (h : i + D.length ≤ M.length) : (put M i D).length = M.length:=by
 simp only [put,List.length_append,List.length_take,List.length_drop];omega
theorem fl_put (K : Y.Ok) {M D : List α} {i : Nat} (h : i + D.length ≤ M.length) : fl Y (put M i D) = (fl Y M).take (i * Y.k) ++ fl Y D ++ (fl Y M).drop (i * Y.k + (fl Y D).length):=by
 have hM : M = M.take i ++ M.drop i:=(List.take_append_drop i M).symm
 have hA : (fl Y (M.take i)).length = i * Y.k:=by rw [fl_length K,List.length_take,Nat.min_eq_left (by omega)]
 have e1 : (fl Y M).take (i * Y.k) = fl Y (M.take i):=by
  conv => lhs;rw [hM,fl_append]
  rw [List.take_append_of_le_length (by omega),List.take_of_length_le (by omega)]
 have hM2 : M = M.take (i + D.length) ++ M.drop (i + D.length):=(List.take_append_drop _ M).symm
 have hB : (fl Y (M.take (i + D.length))).length = (i + D.length) * Y.k:=by rw [fl_length K,List.length_take,Nat.min_eq_left (by omega)]
 have e2 : (fl Y M).drop (i * Y.k + (fl Y D).length) = fl Y (M.drop (i + D.length)):=by
  conv => lhs;rw [hM2,fl_append]
  rw [fl_length K,← Nat.add_mul,List.drop_append_of_le_length (by omega),List.drop_of_length_le (by omega),List.nil_append]
 rw [e1,e2,put,fl_append,fl_append]
theorem run_copy_nil {P : Program} (w : World) (dT sT ty elem : TypeId) (k : Nat) (d a : Option Addr) (dn dc c : Nat)
  (hu : P.underlying dT = some (.slice elem)) (hs : (P.info? elem).map (·.size) = some k) :
  (Builtin.copy_ #[dT,sT] ty #[.slice d dn dc,.slice a 0 c]).run P w = .ok (goInt 0) w:=by
 cases hq : P.info? elem with
 | none => simp [hq] at hs
 | some i =>
  have hi : i.size = k:=by simpa [hq] using hs
  cases a <;> cases d <;> simp [Builtin.copy_,run_underlying hu,Builtin.lenOf,Builtin.firstCells,sizeOf,typeInfo,hq,hi,loadCells,loadCellsFrom,storeCells]
theorem run_copy_at {P : Program} (w : World) (dT sT ty elem : TypeId) (k g off dLen dCap : Nat) (a : Addr) (sLen sCap : Nat) (cur : Array Value) (t : TypeId) (cs : List Value)
  (hu : P.underlying dT = some (.slice elem)) (hs : (P.info? elem).map (·.size) = some k)
  (hg : w.heap[g]? = some (.cells cur t (0,0))) (hn : cs.length = sLen * k) (hle : sLen ≤ dLen)
  (hsrc : ∀ j v,cs[j]? = some v → w.cell? (a.add j) = some v) (hfit : off + cs.length ≤ cur.size) (h1 : ∀ v ∈ cs,v.oneCell' = true) :
  (Builtin.copy_ #[dT,sT] ty #[.slice (some ⟨g,off,none⟩) dLen dCap,.slice (some a) sLen sCap]).run P w =
   .ok (goInt sLen) (w.setRow g (cur.toList.take off ++ cs ++ cur.toList.drop (off + cs.length)).toArray):=by
 have hl:=run_loadCells_list (P:=P) w a cs hsrc;have hst:=run_storeCells_at (P:=P) g off t cs 0 cur w hg (by omega) h1;rw [Nat.add_zero] at hst;have hmin : Nat.min sLen dLen = sLen:=Nat.min_eq_left hle
 cases hq : P.info? elem with
 | none => simp [hq] at hs
 | some i =>
  have hi : i.size = k:=by simpa [hq] using hs
  rw [hn] at hl
  simp [Builtin.copy_,run_underlying hu,Builtin.lenOf,Builtin.firstCells,sizeOf,typeInfo,hq,hi,hl,hst,hmin,Nat.min_eq_left hle]
theorem copyY (K : Y.Ok) (w : World) {ops : Array Oper} {rest : List Oper} {o : Oper} {a : Act} {Q : Exit → Act → World → Prop} (hgd : o.guard = none) (d s : Operand)
  (ho : o.op = .call { callee:=.builtin .copy,args:=#[d,s],argTypes:=#[Y.ST,Y.ST] }) (B g dn dc i n c m : Nat) (ad : Option Addr) (M D : List α)
  (hd : a.eval d = .slice (some ⟨g,i * Y.k,none⟩) dn dc) (hs : a.eval s = .slice ad m c) (hM : OwnY Y B w (.slice (some ⟨g,0,none⟩) n n) M) (hD : SlY Y w ad m c D) (hi : i + m ≤ n) (hdn : m ≤ dn)
  (h : ∀ w',OwnY Y B w' (.slice (some ⟨g,0,none⟩) n n) (put M i D) → Upd (· = g) w w' → w'.heap.size = w.heap.size → wpList Tryz.prog ops Q rest (a.put o.dst (goInt m)) w') : wpList Tryz.prog ops Q (o :: rest) a w:=by
 obtain ⟨zv,hinfo,hzc⟩:=K.info;obtain ⟨i0,hi0,hz0,hz1,hz2⟩:=info_parts hinfo
 have hsz : (Tryz.prog.info? Y.T).map (·.size) = some Y.k:=by rw [hi0];simp [hz1]
 have hMn : M.length = n:=(hM.sl' K).len;have hDm:=hD.len
 by_cases hD0 : D = []
 ·subst hD0
  have hm0 : m = 0:=hDm.symm;subst hm0;have hr:=run_copy_nil (P:=Tryz.prog) w Y.ST Y.ST o.type Y.T Y.k (some ⟨g,i * Y.k,none⟩) ad dn dc c K.und hsz
  refine wpList_plain hgd fun K' hK' => ?_
  unfold Oper.wp execOp
  simp only [ho,resolve,invoke,builtin,Sem.run_bind,Sem.run_pure,Result.andThen_ok,LA,LB,LC,hd,hs,hr];refine hK' _ _ (h _ ?_ (Upd.refl _ _) rfl)
  have : put M i ([] : List α) = M:=by simp [put]
  rw [this]
  exact hM
 ·obtain ⟨q,p,rfl,hq,hl⟩:=hD.place hD0
  rcases hM with ⟨h0,h1 | ⟨g1,cap,cur,e1,e2,e3,e4,e5,e6,e7⟩⟩
  ·have:=h1.1;cases this
  ·injection e1 with q1 q2 q3
   injection q1 with q1
   cases q1
   subst q3
   have hcs : (fl Y D).length = m * Y.k:=by rw [fl_length K,hDm]
   have hfit : i * Y.k + (fl Y D).length ≤ cur.size:=by rw [hcs,e6,← Nat.add_mul];exact Nat.mul_le_mul_right _ hi
   have hr:=run_copy_at (P:=Tryz.prog) w Y.ST Y.ST o.type Y.T Y.k g (i * Y.k) dn dc ⟨q,p,none⟩ m c cur Y.T (fl Y D) K.und hsz e3 hcs hdn (fun j u hu => by rw [Addr.add_lit];exact hl.flat K j u hu) hfit (fl_one K D)
   refine wpList_plain hgd fun K' hK' => ?_
   unfold Oper.wp execOp
   simp only [ho,resolve,invoke,builtin,Sem.run_bind,Sem.run_pure,Result.andThen_ok,LA,LB,LC,hd,hs,hr];refine hK' _ _ (h _ ?_ ⟨rfl,rfl,rfl,by simp,fun b hb hs => setRow_other w g b _ hs⟩ (by simp));have hpl : (put M i D).length = M.length:=put_length (by omega);refine ⟨by rw [fl_length K],.inr ⟨g,n,_,?_,e2,setRow_heap w g cur _ Y.T (0,0) e3,?_,e5,?_,?_⟩⟩
   ·rw [hpl,← q2]
   ·rw [hpl];exact e4
   ·rw [List.size_toArray,← e6]
    simp only [List.length_append,List.length_take,List.length_drop,Array.length_toList]
    omega
   ·rw [hpl,fl_put K (by omega),← e7]
    have hfit2 : i * Y.k + (fl Y D).length ≤ M.length * Y.k:=by rw [hcs,← Nat.add_mul];exact Nat.mul_le_mul_right _ (by omega)
    exact splice_take hfit2
end Go.Proofs.YtpcgnjpodnebpaaGreatDoor
namespace Go.Proofs.YtpcgnjpodnebpaaGreatDoor
open Go.RowKit Go.Maps
open Classical
structure St where
 n : Int
 h : Int
 l : Int
def nv (h l : Int) : Int:=h * 18446744073709551616 + l
def St.v (x : St) : Int:=nv x.h x.l
def cmpI (a b : Int) : Int:=if a < b then -1 else if b < a then 1 else 0
def cmpD (h l h' l' : Int) : Int:=if h = h' then cmpI l l' else cmpI h h'
def gx : List St → Int → Int
 | [],_ => 0
 | e :: r,n => if e.n = n then max e.v (gx r n) else gx r n
def gb (L : List St) (e : St) : Bool:=decide (e.v ≤ 0) || L.any (fun p => decide (p.n = e.n) && decide (e.v ≤ p.v))
def frA : List St → List St → Nat → Bool × Int
 | _,[],_ => (true,0)
 | past,e :: r,i => if e.v ≤ gx past e.n then (false,i) else frA (past ++ [e]) r (i + 1)
def fr (L : List St) : Bool × Int:=frA [] L 0
theorem compare_any (h l h' l' : Int) (w : World) :
  Calls Tryz.prog 39 #[.agg #[.int .u64 h,.int .u64 l],.agg #[.int .u64 h',.int .u64 l']] w fun e w' => e = .returned (.int .i64 (cmpD h l h' l'))∧Below w.heap.size w w':=by
 by_cases e1 : h = h'
 ·subst e1
  rcases Int.lt_trichotomy l l' with c | c | c
  ·have hc : cmpD h l h l' = -1:=by unfold cmpD cmpI;rw [if_pos rfl,if_pos c]
   rw [hc];clear hc
   have f1 : (l == l') = false:=by simp;omega
   have f2 : ¬ l = l':=by omega
   have f3 : ¬ l' < l:=by omega
   go_enter Tryz.func39,Tryz.ntmps39
   go_wp2
   go_ret
   exact ⟨rfl,(BR.alloc LR _).alloc (by simp) _⟩
  ·subst c
   have hc : cmpD h l h l = 0:=by unfold cmpD cmpI;rw [if_pos rfl,if_neg (by omega),if_neg (by omega)]
   rw [hc];clear hc
   go_enter Tryz.func39,Tryz.ntmps39
   go_wp2
   go_ret
   exact ⟨rfl,(BR.alloc LR _).alloc (by simp) _⟩
  ·have hc : cmpD h l h l' = 1:=by unfold cmpD cmpI;rw [if_pos rfl,if_neg (by omega),if_pos c]
   rw [hc];clear hc
   have f1 : (l == l') = false:=by simp;omega
   have f2 : ¬ l = l':=by omega
   have f3 : ¬ l < l':=by omega
   go_enter Tryz.func39,Tryz.ntmps39
   go_wp2
   go_ret
   exact ⟨rfl,(BR.alloc LR _).alloc (by simp) _⟩
 ·have f0 : (h == h') = false:=by simp [e1]
  rcases (by omega : h < h' ∨ h' < h) with c | c
  ·have hc : cmpD h l h' l' = -1:=by unfold cmpD cmpI;rw [if_neg e1,if_pos c]
   rw [hc];clear hc
   have f3 : ¬ h' < h:=by omega
   go_enter Tryz.func39,Tryz.ntmps39
   go_wp2
   go_ret
   exact ⟨rfl,(BR.alloc LR _).alloc (by simp) _⟩
  ·have hc : cmpD h l h' l' = 1:=by unfold cmpD cmpI;rw [if_neg e1,if_neg (by omega),if_pos c]
   rw [hc];clear hc
   have f3 : ¬ h < h':=by omega
   go_enter Tryz.func39,Tryz.ntmps39
   go_wp2
   go_ret
   exact ⟨rfl,(BR.alloc LR _).alloc (by simp) _⟩
end Go.Proofs.YtpcgnjpodnebpaaGreatDoor
namespace Go.Proofs.YtpcgnjpodnebpaaGreatDoor
open Go.RowKit Go.Maps
open Classical
variable {α : Type} {Y : Lay α}
theorem zeroCells_made (z : Array Value) (n : Nat) : Builtin.zeroCells z n = madeCells z (n * z.size):=rfl
theorem run_copyYc (K : Y.Ok) (w : World) (sT ty : TypeId) (B g dn dc i n cp c m : Nat) (ad : Option Addr) (M D : List α) (hM : OwnY Y B w (.slice (some ⟨g,0,none⟩) n cp) M) (hD : SlY Y w ad m c D) (hi : i + m ≤ n) (hdn : m ≤ dn) :
  ∃ w',(Builtin.copy_ #[Y.ST,sT] ty #[.slice (some ⟨g,i * Y.k,none⟩) dn dc,.slice ad m c]).run Tryz.prog w = .ok (goInt m) w'∧OwnY Y B w' (.slice (some ⟨g,0,none⟩) n cp) (put M i D)∧Upd (· = g) w w'∧w'.heap.size = w.heap.size:=by
 obtain ⟨zv,hinfo,hzc⟩:=K.info;obtain ⟨i0,hi0,hz0,hz1,hz2⟩:=info_parts hinfo
 have hsz : (Tryz.prog.info? Y.T).map (·.size) = some Y.k:=by rw [hi0];simp [hz1]
 have hMn : M.length = n:=(hM.sl' K).len;have hDm:=hD.len
 by_cases hD0 : D = []
 ·subst hD0
  have hm0 : m = 0:=hDm.symm;subst hm0;refine ⟨w,run_copy_nil (P:=Tryz.prog) w Y.ST sT ty Y.T Y.k (some ⟨g,i * Y.k,none⟩) ad dn dc c K.und hsz,?_,Upd.refl _ _,rfl⟩
  have : put M i ([] : List α) = M:=by simp [put]
  rw [this]
  exact hM
 ·obtain ⟨q,p,rfl,hq,hl⟩:=hD.place hD0
  rcases hM with ⟨h0,h1 | ⟨g1,cap,cur,e1,e2,e3,e4,e5,e6,e7⟩⟩
  ·have:=h1.1;cases this
  ·injection e1 with q1 q2 q3
   injection q1 with q1
   cases q1
   subst q3
   have hcs : (fl Y D).length = m * Y.k:=by rw [fl_length K,hDm]
   have hfit : i * Y.k + (fl Y D).length ≤ cur.size:=by rw [hcs,e6,← Nat.add_mul];exact Nat.mul_le_mul_right _ (by omega)
   have hr:=run_copy_at (P:=Tryz.prog) w Y.ST sT ty Y.T Y.k g (i * Y.k) dn dc ⟨q,p,none⟩ m c cur Y.T (fl Y D) K.und hsz e3 hcs hdn (fun j u hu => by rw [Addr.add_lit];exact hl.flat K j u hu) hfit (fl_one K D);refine ⟨_,hr,?_,⟨rfl,rfl,rfl,by simp,fun b hb hs => setRow_other w g b _ hs⟩,by simp⟩;have hpl : (put M i D).length = M.length:=put_length (by omega);refine ⟨by rw [fl_length K],.inr ⟨g,cp,_,?_,e2,setRow_heap w g cur _ Y.T (0,0) e3,?_,e5,?_,?_⟩⟩
   ·rw [hpl,← q2]
   ·rw [hpl];exact e4
   ·rw [List.size_toArray,← e6]
    simp only [List.length_append,List.length_take,List.length_drop,Array.length_toList]
    omega
   ·rw [hpl,fl_put K (by omega),← e7]
    have hfit2 : i * Y.k + (fl Y D).length ≤ M.length * Y.k:=by rw [hcs,← Nat.add_mul];exact Nat.mul_le_mul_right _ (by omega)
    exact splice_take hfit2
theorem copyYc (K : Y.Ok) (w : World) {ops : Array Oper} {rest : List Oper} {o : Oper} {a : Act} {Q : Exit → Act → World → Prop} (hgd : o.guard = none) (d s : Operand) (sT : TypeId)
  (ho : o.op = .call { callee:=.builtin .copy,args:=#[d,s],argTypes:=#[Y.ST,sT] }) (B g dn dc i n cp c m : Nat) (ad : Option Addr) (M D : List α)
  (hd : a.eval d = .slice (some ⟨g,i * Y.k,none⟩) dn dc) (hs : a.eval s = .slice ad m c) (hM : OwnY Y B w (.slice (some ⟨g,0,none⟩) n cp) M) (hD : SlY Y w ad m c D) (hi : i + m ≤ n) (hdn : m ≤ dn)
  (h : ∀ w',OwnY Y B w' (.slice (some ⟨g,0,none⟩) n cp) (put M i D) → Upd (· = g) w w' → w'.heap.size = w.heap.size → wpList Tryz.prog ops Q rest (a.put o.dst (goInt m)) w') : wpList Tryz.prog ops Q (o :: rest) a w:=by
 refine wpList_plain hgd fun K' hK' => ?_
 obtain ⟨w',hr,h1,h2,h3⟩:=run_copyYc K w sT o.type B g dn dc i n cp c m ad M D hM hD hi hdn
 unfold Oper.wp execOp
 simp only [ho,resolve,invoke,builtin,Sem.run_bind,Sem.run_pure,Result.andThen_ok,LA,LB,LC,hd,hs,hr]
 exact hK' _ _ (h w' h1 h2 h3)
theorem makeYs (K : Y.Ok) (w : World) {ops : Array Oper} {rest : List Oper} {o : Oper} {a : Act} {Q : Exit → Act → World → Prop} (hgd : o.guard = none) (x : Operand)
  (ho : o.op = .makeSlice Y.ST x x) (n : Nat) (hx : a.eval x = .int .i64 (n : Int)) (hm : n ≤ maxLen) (hb : n * Y.by_ ≤ 281474976710656)
  (h : ∀ w',OwnY Y w.heap.size w' (.slice (some ⟨w.heap.size,0,none⟩) n n) (List.replicate n Y.z) → Below w.heap.size w w' → wpList Tryz.prog ops Q rest (a.put o.dst (.slice (some ⟨w.heap.size,0,none⟩) n n)) w') : wpList Tryz.prog ops Q (o :: rest) a w:=by
 obtain ⟨zv,hinfo,hzc⟩:=K.info;obtain ⟨i0,hi,hz0,hz1,hz2⟩:=info_parts hinfo
 unfold maxLen at hm
 have hsz : (i0.bytes : Int) * (n : Int) ≤ 281474976710656:=by
  have h : ((n * Y.by_ : Nat) : Int) ≤ 281474976710656:=by omega
  rw [Int.natCast_mul,Int.mul_comm] at h;rw [hz2]
  omega
 have hr:=run_make (P:=Tryz.prog) w Y.ST Y.T i0 zv K.und hi hz0 .i64 .i64 n n (by omega) (Int.le_refl _) hsz (by omega);rw [Int.toNat_natCast,hz1] at hr
 refine wpList_plain hgd fun K' hK' => ?_
 unfold Oper.wp execOp
 simp only [ho,hx,Sem.run_bind,Sem.run_pure,hr,Result.andThen_ok];refine hK' _ _ (h _ ?_ (BR.alloc LR _))
 unfold OwnY
 rw [List.length_replicate,← madeY K hzc]
 exact World.ownsRow_lit w _ n LR (by unfold maxLen;omega) (size_madeCells _ _)
def ix (p : α → Bool) (l : List α) : Int:=match l.findIdx? p with
 | some i => i
 | none => -1
theorem ix_hit {p : α → Bool} {l : List α} {i : Nat} (h : i < l.length) (hp : p l[i] = true) (hn : ∀ j (hj : j < i),p (l[j]'(by omega)) = false) : ix p l = (i : Int):=by
 have : l.findIdx? p = some i:=by
  rw [List.findIdx?_eq_some_iff_getElem]
  exact ⟨h,hp,fun j hj => by rw [hn j hj];simp⟩
 rw [ix,this]
theorem ix_miss {p : α → Bool} {l : List α} (h : ∀ x ∈ l,p x = false) : ix p l = -1:=by
 have : l.findIdx? p = none:=List.findIdx?_eq_none_iff.2 h;rw [ix,this]
structure WQ (P : Program) (ops : Array Oper) (C : World → Prop) (Q : Act → Prop) (l : List Oper) (a : Act) : Prop where
 out : wpQuiet P ops C Q l a
theorem region_q9 {P : Program} {C : World → Prop} {id : Nat} {Q : Exit → Act → World → Prop} {a : Act} {w : World} {l : List Oper} (hm : P.follows .mixedOrders = true) (hB : Region.lexB .any l.toArray = true) (hC : C w.drew)
  (h : WQ P l.toArray C (fun a' => ∀ w',C w' → Q .normal a' w') l a) : (Code.region id l.toArray true).wp P Q a w :=
 wp_region_quiet (C:=C) hm hB hC (by simpa using h.out)
theorem wqv {ops : Array Oper} {rest : List Oper} {o : Oper} {a : Act} {C : World → Prop} {Q : Act → Prop} {u : Value} (hw : Region.wanted o (yielded ops a.tmps) = true) (h : ∀ v,C v → (execOp a.eval o).run Tryz.prog v = .ok (.value u) v) (hk : WQ Tryz.prog ops C Q rest (a.put o.dst u)) : WQ Tryz.prog ops C Q (o :: rest) a :=
 ⟨BigFrame.wpQuiet_want hw (fun K hK => ⟨u,fun v hv => by unfold Oper.quietAt;rw [h v hv];exact ⟨rfl,rfl⟩,hK _ hk.out⟩)⟩
theorem wqk {ops : Array Oper} {rest : List Oper} {o : Oper} {a : Act} {C : World → Prop} {Q : Act → Prop} (u : Value) (hk : WQ Tryz.prog ops C Q rest (a.put o.dst u)) (hw : Region.wanted o (yielded ops a.tmps) = true:=by kernel_rfl) (h : ∀ v,C v → (execOp a.eval o).run Tryz.prog v = .ok (.value u) v:=by intro v hv;kernel_rfl) : WQ Tryz.prog ops C Q (o :: rest) a:=wqv hw h hk
theorem wqg {ops : Array Oper} {rest : List Oper} {o : Oper} {a : Act} {C : World → Prop} {Q : Act → Prop} (u : Value) (hk : WQ Tryz.prog ops C Q rest (a.put o.dst u)) (hw : Region.wanted o (yielded ops a.tmps) = true:=by kernel_rfl) (h : ∀ v,C v → (execOp a.eval o).run Tryz.prog v = .ok (.value u) v:=by intro v hv;go_simp) : WQ Tryz.prog ops C Q (o :: rest) a:=wqv hw h hk
theorem wqskip {ops : Array Oper} {rest : List Oper} {o : Oper} {a : Act} {C : World → Prop} {Q : Act → Prop} (hw : Region.wanted o (yielded ops a.tmps) = false) (hk : WQ Tryz.prog ops C Q rest (a.put o.dst undef)) : WQ Tryz.prog ops C Q (o :: rest) a:=⟨BigFrame.wpQuiet_skip hw hk.out⟩
theorem wqnil {ops : Array Oper} {a : Act} {C : World → Prop} {Q : Act → Prop} (h : Q a) : WQ Tryz.prog ops C Q [] a:=⟨wpQuiet_nil h⟩
theorem wqc {ops : Array Oper} {rest : List Oper} {o : Oper} {a : Act} {C : World → Prop} {Q : Act → Prop} {fid : FuncId} {args : Array Value} {u : Value} (hw : Region.wanted o (yielded ops a.tmps) = true) (hr : ∀ v,(execOp a.eval o).run Tryz.prog v = .ok (.enter fid args) v) (hc : ∀ v,C v → Calls Tryz.prog fid args v (fun e w' => e = .returned u∧C w')) (hk : WQ Tryz.prog ops C Q rest (a.put o.dst u)) : WQ Tryz.prog ops C Q (o :: rest) a :=
 ⟨BigFrame.wpQuiet_want hw (fun K hK => ⟨u,fun v hv => by unfold Oper.quietAt;rw [hr v];exact ⟨rfl,hc v hv⟩,hK _ hk.out⟩)⟩
theorem wqi {ops : Array Oper} {rest : List Oper} {o : Oper} {a : Act} {C : World → Prop} {Q : Act → Prop} {fid : FuncId} {args AS : Array Value} {u V : Value} {xs : Array Operand} {ts : Array TypeId} (hw : Region.wanted o (yielded ops a.tmps) = true) (r : Operand) (nm : String) (ho : o.op = .call { callee:=.invoke r nm,args:=xs,argTypes:=ts }) (hx : a.eval r = V) (ha : xs.map a.eval = AS) (hm : ∀ v,(invoke (.fn (.method nm) #[]) (#[V] ++ AS)).run Tryz.prog v = .ok (.enter fid args) v) (hc : ∀ v,C v → Calls Tryz.prog fid args v (fun e w' => e = .returned u∧C w')) (hk : WQ Tryz.prog ops C Q rest (a.put o.dst u)) : WQ Tryz.prog ops C Q (o :: rest) a :=
 wqc (fid:=fid) (args:=args) (u:=u) hw (fun v => by
  unfold execOp
  simp only [ho,resolve,Sem.run_bind,Sem.run_pure,Result.andThen_ok,hx,ha]
  exact hm v) hc hk
end Go.Proofs.YtpcgnjpodnebpaaGreatDoor
namespace Go.Proofs.YtpcgnjpodnebpaaGreatDoor
open Go.RowKit Go.Maps
open Classical
theorem copied_any (D : List En) (a : Option Addr) (n c : Nat) (w : World) (h : SlY yE w a n c D) (hb : n * 48 ≤ 281474976710656) :
  Calls Tryz.prog 138 #[.slice a n c] w fun e w' => e = .returned (.slice (some ⟨w.heap.size,0,none⟩) n n)∧OwnY yE w.heap.size w' (.slice (some ⟨w.heap.size,0,none⟩) n n) D∧Below w.heap.size w w':=by
 have hmx:=h.max;have hcp:=h.cap;have hln:=h.len
 unfold maxLen at hmx
 have H:=hide h;have HN:=hide hln;clear h hln
 go_enter Tryz.func138,Tryz.ntmps138
 go_wp2_with (at_make;go_must (refine makeYs kE _ rfl (.tmp 5) rfl n rfl (by unfold maxLen;omega) hb ?zk))
 intro w1 o1 b1;have O1:=hide o1;have B1:=hide b1;have H1:=hide (H.out.later b1);have z1:=b1.size;clear o1 b1
 go_wp2_with (refine copyYc kE _ rfl (.tmp 7) (.tmp 8) 25 rfl w.heap.size w.heap.size n n 0 n n c n a _ D (by rfl) rfl O1.out H1.out (by omega) LR ?zm)
 intro w2 o2 u2 z2
 have hp : put (List.replicate n yE.z) 0 D = D:=by
  unfold put
  rw [List.take_zero,List.nil_append,List.drop_of_length_le (by rw [List.length_replicate,HN.out];omega),List.append_nil]
 rw [hp] at o2;have O2:=hide o2;have B2:=hide (B1.out.trans (u2.below z1 (fun k e => by subst e;exact LR)));clear o2 u2 hp
 go_wp2
 go_ret
 exact ⟨rfl,O2.out,B2.out⟩
structure An where
 n : Int
 h : Int
 l : Int
 v : Int
 c : Int
 s : SV En
def An.cs (x : An) : List Value:=[.int .i64 x.n,.int .u64 x.h,.int .u64 x.l,.int .i64 x.v,.int .i64 x.c,.slice x.s.a x.s.D.length x.s.c]
def An.val (x : An) : Value:=.agg #[.int .i64 x.n,.int .u64 x.h,.int .u64 x.l,.int .i64 x.v,.int .i64 x.c,.slice x.s.a x.s.D.length x.s.c]
def yAnA : Lay An:=⟨77,31,6,64,An.cs,⟨0,0,0,0,0,⟨none,0,[]⟩⟩⟩
def yAnV : Lay An:=⟨165,167,6,64,An.cs,⟨0,0,0,0,0,⟨none,0,[]⟩⟩⟩
theorem kAnA : yAnA.Ok:=⟨by decide,fun x => rfl,fun x u h => by
  simp [yAnA,An.cs] at h
  rcases h with rfl | rfl | rfl | rfl | rfl | rfl <;> rfl,Tryz.underlying31,⟨.agg #[.int .i64 (⟨0,0,0,0,0,⟨none,0,[]⟩⟩ : An).n,.int .u64 (⟨0,0,0,0,0,⟨none,0,[]⟩⟩ : An).h,.int .u64 (⟨0,0,0,0,0,⟨none,0,[]⟩⟩ : An).l,.int .i64 (⟨0,0,0,0,0,⟨none,0,[]⟩⟩ : An).v,.int .i64 (⟨0,0,0,0,0,⟨none,0,[]⟩⟩ : An).c,.slice (⟨0,0,0,0,0,⟨none,0,[]⟩⟩ : An).s.a (⟨0,0,0,0,0,⟨none,0,[]⟩⟩ : An).s.D.length (⟨0,0,0,0,0,⟨none,0,[]⟩⟩ : An).s.c],by kernel_rfl,rfl⟩⟩
theorem kAnV : yAnV.Ok:=⟨by decide,fun x => rfl,fun x u h => by
  simp [yAnV,An.cs] at h
  rcases h with rfl | rfl | rfl | rfl | rfl | rfl <;> rfl,Tryz.underlying167,⟨.agg #[.int .i64 (⟨0,0,0,0,0,⟨none,0,[]⟩⟩ : An).n,.int .u64 (⟨0,0,0,0,0,⟨none,0,[]⟩⟩ : An).h,.int .u64 (⟨0,0,0,0,0,⟨none,0,[]⟩⟩ : An).l,.int .i64 (⟨0,0,0,0,0,⟨none,0,[]⟩⟩ : An).v,.int .i64 (⟨0,0,0,0,0,⟨none,0,[]⟩⟩ : An).c,.slice (⟨0,0,0,0,0,⟨none,0,[]⟩⟩ : An).s.a (⟨0,0,0,0,0,⟨none,0,[]⟩⟩ : An).s.D.length (⟨0,0,0,0,0,⟨none,0,[]⟩⟩ : An).s.c],by kernel_rfl,rfl⟩⟩
theorem SlY.AnA {w : World} {a : Option Addr} {n c : Nat} {L : List An} (h : SlY yAnA w a n c L) {j : Nat} {x : An} (hx : L[j]? = some x) : ∃ q o,a = some ⟨q,o,none⟩∧q < w.heap.size∧w.cell? ⟨q,o + j * 6,none⟩ = some (.int .i64 x.n)∧w.cell? ⟨q,o + j * 6 + 1,none⟩ = some (.int .u64 x.h)∧w.cell? ⟨q,o + j * 6 + 2,none⟩ = some (.int .u64 x.l)∧w.cell? ⟨q,o + j * 6 + 3,none⟩ = some (.int .i64 x.v)∧w.cell? ⟨q,o + j * 6 + 4,none⟩ = some (.int .i64 x.c)∧w.cell? ⟨q,o + j * 6 + 5,none⟩ = some (.slice x.s.a x.s.D.length x.s.c):=by
 obtain ⟨q,o,ea,hq,hl⟩:=h.place (by rintro rfl;simp at hx)
 exact ⟨q,o,ea,hq,hl j x hx 0 _ rfl,hl j x hx 1 _ rfl,hl j x hx 2 _ rfl,hl j x hx 3 _ rfl,hl j x hx 4 _ rfl,hl j x hx 5 _ rfl⟩
theorem SlY.AnV {w : World} {a : Option Addr} {n c : Nat} {L : List An} (h : SlY yAnV w a n c L) {j : Nat} {x : An} (hx : L[j]? = some x) : ∃ q o,a = some ⟨q,o,none⟩∧q < w.heap.size∧w.cell? ⟨q,o + j * 6,none⟩ = some (.int .i64 x.n)∧w.cell? ⟨q,o + j * 6 + 1,none⟩ = some (.int .u64 x.h)∧w.cell? ⟨q,o + j * 6 + 2,none⟩ = some (.int .u64 x.l)∧w.cell? ⟨q,o + j * 6 + 3,none⟩ = some (.int .i64 x.v)∧w.cell? ⟨q,o + j * 6 + 4,none⟩ = some (.int .i64 x.c)∧w.cell? ⟨q,o + j * 6 + 5,none⟩ = some (.slice x.s.a x.s.D.length x.s.c):=by
 obtain ⟨q,o,ea,hq,hl⟩:=h.place (by rintro rfl;simp at hx)
 exact ⟨q,o,ea,hq,hl j x hx 0 _ rfl,hl j x hx 1 _ rfl,hl j x hx 2 _ rfl,hl j x hx 3 _ rfl,hl j x hx 4 _ rfl,hl j x hx 5 _ rfl⟩
theorem An.node_any (x : An) (w : World) : Calls Tryz.prog 183 #[x.val] w fun e w' => e = .returned (.int .i64 x.n)∧Below w.heap.size w w':=by
 show Calls Tryz.prog 183 #[.agg #[.int .i64 x.n,.int .u64 x.h,.int .u64 x.l,.int .i64 x.v,.int .i64 x.c,.slice x.s.a x.s.D.length x.s.c]] w _
 go_enter Tryz.func183,Tryz.ntmps183
 go_wp2
 go_ret
 exact ⟨rfl,BR.alloc LR _⟩
theorem An.draw_any (x : An) (w : World) : Calls Tryz.prog 181 #[x.val] w fun e w' => e = .returned (.agg #[.int .u64 x.h,.int .u64 x.l])∧Below w.heap.size w w':=by
 show Calls Tryz.prog 181 #[.agg #[.int .i64 x.n,.int .u64 x.h,.int .u64 x.l,.int .i64 x.v,.int .i64 x.c,.slice x.s.a x.s.D.length x.s.c]] w _
 go_enter Tryz.func181,Tryz.ntmps181
 go_wp2
 refine bodyPost_ret (v:=.agg #[.int .u64 x.h,.int .u64 x.l]) (by simp [results,Tryz.results181,go_sem]) rfl ?_
 exact ⟨rfl,by (repeat (first | exact Below.refl _ _ | assumption | refine Below.drew ?_ | refine Below.alloc ?_ (by first | (simp;done) | (simp;omega) | omega) _ | refine Below.setCell ?_ (by first | (simp;done) | (simp;omega) | omega) _))⟩
theorem An.as_any (x : An) (w : World) : Calls Tryz.prog 108 #[x.val] w fun e w' => e = .returned x.val∧Below w.heap.size w w':=by
 show Calls Tryz.prog 108 #[.agg #[.int .i64 x.n,.int .u64 x.h,.int .u64 x.l,.int .i64 x.v,.int .i64 x.c,.slice x.s.a x.s.D.length x.s.c]] w _
 go_enter Tryz.func108,Tryz.ntmps108
 go_wp2
 refine bodyPost_ret (v:=x.val) (by simp [results,Tryz.results108,go_sem,An.val]) rfl ?_
 exact ⟨rfl,by (repeat (first | exact Below.refl _ _ | assumption | refine Below.drew ?_ | refine Below.alloc ?_ (by first | (simp;done) | (simp;omega) | omega) _ | refine Below.setCell ?_ (by first | (simp;done) | (simp;omega) | omega) _))⟩
theorem An.ifnode (x : An) (w : World) : (invoke (.fn (.method "amnesia/tally.node") #[]) #[.iface 165 x.val]).run Tryz.prog w = .ok (.enter 183 #[x.val]) w := by kernel_rfl
theorem An.hold_any (L : List An) (a : Option Addr) (n c : Nat) (w : World) (h : SlY yAnA w a n c L) (hb : n * 64 ≤ 281474976710656) :
  Calls Tryz.prog 107 #[.slice a n c,.func (.func 108) #[] #[]] w fun e w' => e = .returned (.slice (some ⟨w.heap.size,0,none⟩) n n)∧OwnY yAnV w.heap.size w' (.slice (some ⟨w.heap.size,0,none⟩) n n) L∧Below w.heap.size w w':=by
 have hmx:=h.max;have hcp:=h.cap;have hln:=h.len
 unfold maxLen at hmx
 have H:=hide h;have HN:=hide hln;clear h hln
 go_enter Tryz.func107,Tryz.ntmps107
 go_wp2_with (at_make;go_must (refine makeYs kAnV _ rfl (.tmp 9) rfl n rfl (by unfold maxLen;omega) hb ?zk))
 intro w1 o1 b1
 have HO : Hid (OwnY yAnV w.heap.size w1 (.slice (some ⟨w.heap.size,0,none⟩) n n) (L.take 0 ++ List.replicate (n - 0) yAnV.z)):=by
  show OwnY _ _ _ _ _
  simpa using o1
 clear o1
 go_wp2
 go_loopw [13] (fun i wr => ∃ j : Nat,i = .int .i64 (j : Int)∧j ≤ n∧Hid (OwnY yAnV w.heap.size wr (.slice (some ⟨w.heap.size,0,none⟩) n n) (L.take j ++ List.replicate (n - j) yAnV.z))∧Below w.heap.size w wr) (fun i _ => n - (intOf i).toNat)
 case atStart => exact ⟨0,rfl,Nat.zero_le _,HO,b1⟩
 case round =>
  obtain ⟨j,rfl,hj,hO,hbl⟩:=hrel;have hsz:=hbl.size
  by_cases hlt : j < n
  ·have hjl : j < L.length:=by rw [HN.out];exact hlt
   have hg : L[j]? = some L[j]:=List.getElem?_eq_getElem hjl;obtain ⟨q,o,rfl,hq,y0,y1,y2,y3,y4,y5⟩:=(H.out.later hbl).AnA hg
   have hlt0 : w.heap.size < wr.heap.size:=by
    obtain ⟨_,_,ee,_,_,_,h4⟩:=hO.out.form
    injection ee with ee
    obtain ⟨g',e2,_,h5⟩:=h4 _ ee.symm
    cases e2
    exact h5
   have hset : Hid ((L.take j ++ List.replicate (n - j) yAnV.z).set j L[j] = L.take (j + 1) ++ List.replicate (n - (j + 1)) yAnV.z):=by
    show _ = _
    have hl : (L.take j).length = j:=by rw [List.length_take];omega
    rw [List.set_append_right _ _ (by omega),hl,Nat.sub_self,show n - j = (n - (j + 1)) + 1 by omega,List.replicate_succ,List.set_cons_zero,List.take_add_one,hg];simp only [Option.toList_some,List.append_assoc,List.cons_append,List.nil_append]
   have hget : Hid ((L.take j ++ List.replicate (n - j) yAnV.z)[j]? = some yAnV.z):=by
    show _ = _
    have hl : (L.take j).length = j:=by rw [List.length_take];omega
    rw [List.getElem?_append_right (by omega),hl,Nat.sub_self,show n - j = (n - (j + 1)) + 1 by omega,List.replicate_succ]
    rfl
   clear hg
   generalize L[j] = x at *
   generalize hX : L.take j ++ List.replicate (n - j) yAnV.z = XX at *
   clear hX;have bA:=hide (hbl.trans (((Below.refl _ wr).alloc LR (.cells #[.int .i64 x.n,.int .u64 x.h,.int .u64 x.l,.int .i64 x.v,.int .i64 x.c,.slice x.s.a x.s.D.length x.s.c] 77)).mono hsz));have OA:=hide (hO.out.alloc (.cells #[.int .i64 x.n,.int .u64 x.h,.int .u64 x.l,.int .i64 x.v,.int .i64 x.c,.slice x.s.a x.s.D.length x.s.c] 77));have ca:=hide (x.as_any (wr.alloc (.cells #[.int .i64 x.n,.int .u64 x.h,.int .u64 x.l,.int .i64 x.v,.int .i64 x.c,.slice x.s.a x.s.D.length x.s.c] 77)));clear hO
   go_wp2_with fail
   refine ca.out.mono ?_;rintro e w2 ⟨rfl,b2⟩;have O2:=hide (OA.out.grow b2);have z2:=b2.size;rw [World.size_alloc] at z2
   dsimp only
   go_wp2_with (first
    | (refine storeY kAnV _ rfl 165 (.tmp 23) (.tmp 22) rfl w.heap.size w.heap.size n n XX j 0 yAnV.z x _ rfl rfl hget.out (by kernel_rfl) (by exact (by decide : 6 ≤ 6)) rfl O2.out ?_;intro w3 o3 u3 z3;have O3:=hide o3;clear o3)
    | go_in)
   go_round
   case rel =>
    refine ⟨j + 1,by go_num,by omega,by show OwnY _ _ _ _ _;rw [← hset.out];exact O3.out,bA.out.trans ((b2.mono (by simp;omega)).trans (u3.below (by omega) (fun k e => by subst e;exact LR)))⟩
   case measure => simp [intOf];omega
  ·obtain rfl : j = n:=by omega
   have O9 : Hid (OwnY yAnV w.heap.size wr (.slice (some ⟨w.heap.size,0,none⟩) j j) L):=by
    show OwnY _ _ _ _ _
    have:=hO.out;rw [Nat.sub_self,List.replicate_zero,List.append_nil,List.take_of_length_le (by rw [HN.out];exact LR)] at this
    exact this
   clear hO
   go_wp2
   go_ret
   exact ⟨rfl,O9.out,hbl⟩
theorem An.index_any (p : An → Bool) (g : Nat) (lb : Array Value) (eg : ∀ args w,(callFunc g args).run Tryz.prog w = .ok (.enter g args) w) (L : List An) (a : Option Addr) (n c : Nat) (w : World) (h : SlY yAnV w a n c L)
  (hp : ∀ (W : World) (x : An),Below w.heap.size w W → Calls Tryz.prog g (#[x.val] ++ lb) W fun e w' => e = .returned (.bool (p x))∧Below w.heap.size w w') :
  Calls Tryz.prog 152 #[.slice a n c,.func (.func g) #[] lb] w fun e w' => e = .returned (.int .i64 (ix p L))∧Below w.heap.size w w':=by
 have hmx:=h.max;have hcp:=h.cap;have hln:=h.len
 unfold maxLen at hmx
 have H:=hide h;have HN:=hide hln;have HP:=hide hp;clear h hln hp
 go_enter Tryz.func152,Tryz.ntmps152
 go_wp2
 go_loopw [8] (fun i wr => ∃ j : Nat,i = .int .i64 (j : Int)∧j ≤ n∧Hid (∀ k (hk : k < L.length),k < j → p L[k] = false)∧Below w.heap.size w wr) (fun i _ => n - (intOf i).toNat)
 case atStart => exact ⟨0,rfl,Nat.zero_le _,fun k hk h => absurd h (Nat.not_lt_zero _),BR⟩
 case round =>
  obtain ⟨j,rfl,hj,hA,hbl⟩:=hrel;have hsz:=hbl.size
  by_cases hlt : j < n
  ·have hjl : j < L.length:=by rw [HN.out];exact hlt
   have hg : L[j]? = some L[j]:=List.getElem?_eq_getElem hjl;obtain ⟨q,o,rfl,hq,y0,y1,y2,y3,y4,y5⟩:=(H.out.later hbl).AnV hg;have hcall:=HP.out wr L[j] hbl
   have hH : Hid (p L[j] = true → ix p L = (j : Int)):=fun hp => ix_hit hjl hp (fun k hk => hA.out k (by omega) hk)
   have hS : Hid (p L[j] = false → ∀ k (hk : k < L.length),k < j + 1 → p L[k] = false):=fun hp k hk hkj => by
    by_cases e : k = j
    ·subst e;exact hp
    ·exact hA.out k hk (by omega)
   clear hA hg
   generalize L[j] = x at *
   unfold An.val at hcall
   cases hq2 : p x with
   | true =>
    have hx:=hide (hH.out hq2);rw [hq2] at hcall;clear hH hS
    go_wp2_with (go_at_fn g;refine hcall.mono ?_;rintro e w' ⟨rfl,hb'⟩)
    go_ret
    exact ⟨by rw [hx.out];rfl,hb'⟩
   | false =>
    have hx:=hide (hS.out hq2);rw [hq2] at hcall;clear hH hS
    go_wp2_with (go_at_fn g;refine hcall.mono ?_;rintro e w' ⟨rfl,hb'⟩)
    go_round
    case rel => exact ⟨j + 1,by go_num,by omega,hx,hb'⟩
    case measure => simp [intOf];omega
  ·obtain rfl : j = n:=by omega
   have hx : Hid (ix p L = -1):=ix_miss (fun x hx => by
    obtain ⟨k,hk,rfl⟩:=List.mem_iff_getElem.1 hx
    exact hA.out k hk (by rw [← HN.out];exact hk))
   clear hA
   go_wp2
   go_ret
   exact ⟨by rw [hx.out];rfl,hbl⟩
theorem An.box (x : An) (w v : World) (hv : Below (w.heap.size + 1) (w.alloc (.cells #[.int .i64 x.n,.int .u64 x.h,.int .u64 x.l,.int .i64 x.v,.int .i64 x.c,.slice x.s.a x.s.D.length x.s.c] 165)) v) : v.cell? ⟨w.heap.size,0,none⟩ = some (.int .i64 x.n)∧v.cell? ⟨w.heap.size,1,none⟩ = some (.int .u64 x.h)∧v.cell? ⟨w.heap.size,2,none⟩ = some (.int .u64 x.l)∧v.cell? ⟨w.heap.size,3,none⟩ = some (.int .i64 x.v)∧v.cell? ⟨w.heap.size,4,none⟩ = some (.int .i64 x.c)∧v.cell? ⟨w.heap.size,5,none⟩ = some (.slice x.s.a x.s.D.length x.s.c) :=
 ⟨(hv.cell (p:=⟨w.heap.size,0,none⟩) (by simp)).trans (by simp),(hv.cell (p:=⟨w.heap.size,1,none⟩) (by simp)).trans (by simp),(hv.cell (p:=⟨w.heap.size,2,none⟩) (by simp)).trans (by simp),(hv.cell (p:=⟨w.heap.size,3,none⟩) (by simp)).trans (by simp),(hv.cell (p:=⟨w.heap.size,4,none⟩) (by simp)).trans (by simp),(hv.cell (p:=⟨w.heap.size,5,none⟩) (by simp)).trans (by simp)⟩
theorem An.ifdraw (x : An) (w : World) : (invoke (.fn (.method "amnesia/tally.draw") #[]) #[.iface 165 x.val]).run Tryz.prog w = .ok (.enter 181 #[x.val]) w := by kernel_rfl
def An.re (x : An) (g : Nat) : An:={ x with s:=⟨some ⟨g,0,none⟩,x.s.D.length,x.s.D⟩ }
def An.In (w : World) (x : An) : Prop:=SlY yE w x.s.a x.s.D.length x.s.c x.s.D∧x.s.D.length * 48 ≤ 281474976710656
theorem An.In.later {w w' : World} {x : An} (h : x.In w) (hb : Below w.heap.size w w') : x.In w':=⟨h.1.later hb,h.2⟩
def An.Told (B : Nat) (w : World) (x y : An) : Prop:=x.s.D.length * 48 ≤ 281474976710656∧∃ g,y = x.re g∧OwnY yE B w (.slice (some ⟨g,0,none⟩) x.s.D.length x.s.D.length) x.s.D
theorem An.Told.bel {B : Nat} {w w' : World} {x y : An} (h : An.Told B w x y) (hb : Below w.heap.size w w') : An.Told B w' x y:=by
 obtain ⟨h0,g,e,o⟩:=h
 exact ⟨h0,g,e,o.grow hb⟩
theorem An.Told.low {B B' : Nat} {w : World} {x y : An} (h : An.Told B w x y) (hb : B' ≤ B) : An.Told B' w x y:=by
 obtain ⟨h0,g,e,o⟩:=h
 exact ⟨h0,g,e,o.low hb⟩
theorem An.Told.In {B : Nat} {w : World} {x y : An} (h : An.Told B w x y) : y.In w:=by
 obtain ⟨h0,g,rfl,o⟩:=h
 exact ⟨o.sl' kE,h0⟩
theorem An.Told.D {B : Nat} {w : World} {x y : An} (h : An.Told B w x y) : y.s.D = x.s.D∧y.n = x.n∧y.h = x.h∧y.l = x.l∧y.v = x.v∧y.c = x.c:=by
 obtain ⟨h0,g,rfl,o⟩:=h
 exact ⟨rfl,rfl,rfl,rfl,rfl,rfl⟩
def An.Tolds (B : Nat) (w : World) (L R : List An) : Prop:=R.length = L.length∧∀ (i : Nat) (x y : An),L[i]? = some x → R[i]? = some y → An.Told B w x y
theorem An.Tolds.bel {B : Nat} {w w' : World} {L R : List An} (h : An.Tolds B w L R) (hb : Below w.heap.size w w') : An.Tolds B w' L R:=⟨h.1,fun i x y hx hy => (h.2 i x y hx hy).bel hb⟩
theorem An.Tolds.low {B B' : Nat} {w : World} {L R : List An} (h : An.Tolds B w L R) (hb : B' ≤ B) : An.Tolds B' w L R:=⟨h.1,fun i x y hx hy => (h.2 i x y hx hy).low hb⟩
theorem hTEAn : yE.T ≠ yAnA.T:=by decide
theorem An.told_any (x : An) (w : World) (h : x.In w) : Calls Tryz.prog 109 #[x.val] w fun e w' => e = .returned (x.re (w.heap.size + 2)).val∧OwnY yE (w.heap.size + 2) w' (.slice (some ⟨w.heap.size + 2,0,none⟩) x.s.D.length x.s.D.length) x.s.D∧Below w.heap.size w w':=by
 obtain ⟨h,hd⟩:=h;obtain ⟨xn,xh,xl,xv,xc,⟨xa,xp,xD⟩⟩:=x
 dsimp only at h hd
 have wz:=hide (show ((w.alloc (.cells #[.int .i64 xn,.int .u64 xh,.int .u64 xl,.int .i64 xv,.int .i64 xc,.slice xa xD.length xp] 165)).alloc (.cells #[.int .i64 0,.int .u64 0,.int .u64 0,.int .i64 0,.int .i64 0,.slice none 0 0] 77)).heap.size = w.heap.size + 2 by simp);have b1 : Below w.heap.size w ((w.alloc (.cells #[.int .i64 xn,.int .u64 xh,.int .u64 xl,.int .i64 xv,.int .i64 xc,.slice xa xD.length xp] 165)).alloc (.cells #[.int .i64 0,.int .u64 0,.int .u64 0,.int .i64 0,.int .i64 0,.slice none 0 0] 77)):=((Below.refl _ w).alloc LR _).alloc (by simp) _;have cc:=copied_any xD xa xD.length xp _ (h.later b1) hd;rw [wz.out] at cc;have CC:=hide cc;have B1:=hide b1;clear cc b1 h
 show Calls Tryz.prog 109 #[.agg #[.int .i64 xn,.int .u64 xh,.int .u64 xl,.int .i64 xv,.int .i64 xc,.slice xa xD.length xp]] w fun e w' => e = .returned (.agg #[.int .i64 xn,.int .u64 xh,.int .u64 xl,.int .i64 xv,.int .i64 xc,.slice (some ⟨w.heap.size + 2,0,none⟩) xD.length xD.length])∧OwnY yE (w.heap.size + 2) w' (.slice (some ⟨w.heap.size + 2,0,none⟩) xD.length xD.length) xD∧Below w.heap.size w w'
 go_enter Tryz.func109,Tryz.ntmps109
 go_wp2_with fail
 refine CC.out.mono ?_;rintro e w1 ⟨rfl,o1,b1⟩
 have ox : OwnY yAnV w.heap.size w1 (.slice (some ⟨w.heap.size,0,none⟩) 1 1) [⟨xn,xh,xl,xv,xc,⟨xa,xp,xD⟩⟩] :=
  (((own_box kAnV w.heap.size w ⟨xn,xh,xl,xv,xc,⟨xa,xp,xD⟩⟩ LR).alloc _).upd1 (Upd.of_below (by rw [← wz.out] at b1;exact b1)) (fun _ _ => id))
 have oz : OwnY yAnA w.heap.size w1 (.slice (some ⟨w.heap.size + 1,0,none⟩) 1 1) [⟨0,0,0,0,0,⟨none,0,[]⟩⟩]:=by
  have:=(own_box kAnA w.heap.size (w.alloc (.cells #[.int .i64 xn,.int .u64 xh,.int .u64 xl,.int .i64 xv,.int .i64 xc,.slice xa xD.length xp] 165)) ⟨0,0,0,0,0,⟨none,0,[]⟩⟩ (by simp)).upd1 (Upd.of_below (by rw [← wz.out] at b1;exact b1)) (fun _ _ => id);rw [World.size_alloc] at this
  exact this
 have z1 : w.heap.size + 2 ≤ w1.heap.size:=by have:=b1.size;rwa [wz.out] at this
 have O1:=hide o1;have B2:=hide (B1.out.trans (b1.mono (by omega)));have OX:=hide ox;have OZ:=hide oz;clear o1 b1 ox oz CC B1 wz
 dsimp only
 go_wp2_with (refine storeY kAnV _ rfl 25 (.tmp 6) (.tmp 5) rfl w.heap.size w.heap.size 1 1 [⟨xn,xh,xl,xv,xc,⟨xa,xp,xD⟩⟩] 0 5 ⟨xn,xh,xl,xv,xc,⟨xa,xp,xD⟩⟩ ⟨xn,xh,xl,xv,xc,⟨some ⟨w.heap.size + 2,0,none⟩,xD.length,xD⟩⟩ _ rfl rfl rfl (by kernel_rfl) (by exact (by decide : 6 ≤ 6)) rfl OX.out ?zk)
 intro w2 o2 u2 z2;have y0:=o2.cell kAnV 0 _ rfl 0 _ rfl;have y1:=o2.cell kAnV 0 _ rfl 1 _ rfl;have y2:=o2.cell kAnV 0 _ rfl 2 _ rfl;have y3:=o2.cell kAnV 0 _ rfl 3 _ rfl;have y4:=o2.cell kAnV 0 _ rfl 4 _ rfl;have y5:=o2.cell kAnV 0 _ rfl 5 _ rfl;simp only [Nat.zero_mul,Nat.zero_add] at y0 y1 y2 y3 y4 y5;have OZ2:=hide (OZ.out.upd1 u2 (fun g e => by cases e;show ¬ (w.heap.size + 1 = w.heap.size);omega));have U2:=hide u2;clear o2 u2
 go_wp2_with (refine storeY kAnA _ rfl 77 (.tmp 2) (.tmp 7) rfl w.heap.size (w.heap.size + 1) 1 1 [⟨0,0,0,0,0,⟨none,0,[]⟩⟩] 0 0 ⟨0,0,0,0,0,⟨none,0,[]⟩⟩ ⟨xn,xh,xl,xv,xc,⟨some ⟨w.heap.size + 2,0,none⟩,xD.length,xD⟩⟩ _ rfl rfl rfl (by kernel_rfl) (by exact (by decide : 6 ≤ 6)) rfl OZ2.out ?zl)
 intro w3 o3 u3 z3;have OZ3:=hide o3;have U3:=hide u3;clear o3 u3
 go_wp2
 have v0:=OZ3.out.cell kAnA 0 _ rfl 0 _ rfl;have v1:=OZ3.out.cell kAnA 0 _ rfl 1 _ rfl;have v2:=OZ3.out.cell kAnA 0 _ rfl 2 _ rfl;have v3:=OZ3.out.cell kAnA 0 _ rfl 3 _ rfl;have v4:=OZ3.out.cell kAnA 0 _ rfl 4 _ rfl;have v5:=OZ3.out.cell kAnA 0 _ rfl 5 _ rfl;simp only [Nat.zero_mul,Nat.zero_add] at v0 v1 v2 v3 v4 v5;refine bodyPost_ret (v:=.agg #[.int .i64 xn,.int .u64 xh,.int .u64 xl,.int .i64 xv,.int .i64 xc,.slice (some ⟨w.heap.size + 2,0,none⟩) xD.length xD.length]) (by simp [results,Tryz.results109,go_sem,v0,v1,v2,v3,v4,v5]) rfl ?_;refine ⟨rfl,(O1.out.upd1 U2.out (fun g e => by cases e;show ¬ (w.heap.size + 2 = w.heap.size);omega)).upd1 U3.out (fun g e => by cases e;show ¬ (w.heap.size + 2 = w.heap.size + 1);omega),(B2.out.trans (U2.out.below (by omega) (fun k e => by subst e;exact LR))).trans (U3.out.below (by omega) (fun k e => by subst e;omega))⟩
theorem An.Tolds.snoc {B g : Nat} {w w2 w3 : World} {L R : List An} {j : Nat} {x : An} {q : Nat} (h : An.Tolds B w (L.take j) R) (hj : L[j]? = some x) (hB : B ≤ q) (hb : Below w.heap.size w w2) (hd : x.s.D.length * 48 ≤ 281474976710656) (ho : OwnY yE q w2 (.slice (some ⟨q,0,none⟩) x.s.D.length x.s.D.length) x.s.D) (u : Upd (· = g) w2 w3) (hr : ∃ cs f,w2.heap[g]? = some (.cells cs yAnA.T f)) : An.Tolds B w3 (L.take (j + 1)) (R ++ [x.re q]):=by
 have hjl:=(List.getElem?_eq_some_iff.1 hj).1
 have keep : ∀ {B' g' n c : Nat} {l : List En},OwnY yE B' w2 (.slice (some ⟨g',0,none⟩) n c) l → OwnY yE B' w3 (.slice (some ⟨g',0,none⟩) n c) l:=fun {B' g' n c l} ho' => ho'.upd1 u (fun k e hk => by
  subst hk;obtain ⟨c1,f1,e1⟩:=ho'.kind e;obtain ⟨c2,f2,e2⟩:=hr;rw [e1] at e2
  injection e2 with e2
  injection e2 with _ e3
  exact hTEAn e3)
 have ht : (L.take j).length = j:=by rw [List.length_take];omega
 refine ⟨by rw [List.length_append,h.1,ht,List.length_take,List.length_singleton];omega,fun i y z hy hz => ?_⟩;rw [List.take_add_one,hj] at hy
 by_cases hi : i < j
 ·rw [List.getElem?_append_left (by omega)] at hy
  rw [List.getElem?_append_left (by rw [h.1];omega)] at hz;obtain ⟨h0,g',e,o⟩:=h.2 i y z hy hz
  exact ⟨h0,g',e,keep (o.grow hb)⟩
 ·rw [List.getElem?_append_right (by omega)] at hy
  rw [List.getElem?_append_right (by rw [h.1];omega)] at hz;rw [ht] at hy;rw [h.1,ht] at hz
  have hi0 : i - j = 0:=by
   have:=(List.getElem?_eq_some_iff.1 hz).1
   simp at this
   omega
  rw [hi0] at hy hz
  simp at hy hz
  subst hy hz
  exact ⟨hd,q,rfl,(keep ho).low hB⟩
theorem An.tell_any (L : List An) (a : Option Addr) (n c : Nat) (w : World) (h : SlY yAnV w a n c L) (hb : n * 64 ≤ 281474976710656) (hlogs : ∀ x ∈ L,x.In w) :
  Calls Tryz.prog 105 #[.slice a n c,.func (.func 109) #[] #[]] w fun e w' => e = .returned (.slice (some ⟨w.heap.size,0,none⟩) n n)∧(∃ R,OwnY yAnA w.heap.size w' (.slice (some ⟨w.heap.size,0,none⟩) n n) R∧An.Tolds w.heap.size w' L R)∧Below w.heap.size w w':=by
 have hmx:=h.max;have hcp:=h.cap;have hln:=h.len
 unfold maxLen at hmx
 have H:=hide h;have HN:=hide hln;have HX:=hide hlogs;clear h hln hlogs
 go_enter Tryz.func105,Tryz.ntmps105
 go_wp2_with (at_make;go_must (refine makeYs kAnA _ rfl (.tmp 9) rfl n rfl (by unfold maxLen;omega) hb ?zk))
 intro w1 o1 b1
 have HO : Hid (∃ R,OwnY yAnA w.heap.size w1 (.slice (some ⟨w.heap.size,0,none⟩) n n) (R ++ List.replicate (n - 0) yAnA.z)∧An.Tolds w.heap.size w1 (L.take 0) R):=⟨[],by simpa using o1,rfl,fun i x y hx hy => by simp at hy⟩
 clear o1
 go_wp2
 go_loopw [13] (fun i wr => ∃ j : Nat,i = .int .i64 (j : Int)∧j ≤ n∧Hid (∃ R,OwnY yAnA w.heap.size wr (.slice (some ⟨w.heap.size,0,none⟩) n n) (R ++ List.replicate (n - j) yAnA.z)∧An.Tolds w.heap.size wr (L.take j) R)∧Below w.heap.size w wr) (fun i _ => n - (intOf i).toNat)
 case atStart => exact ⟨0,rfl,Nat.zero_le _,HO,b1⟩
 case round =>
  obtain ⟨j,rfl,hj,hO,hbl⟩:=hrel;have hsz:=hbl.size;obtain ⟨R,oR,tR⟩:=hO.out;clear hO
  by_cases hlt : j < n
  ·have hjl : j < L.length:=by rw [HN.out];exact hlt
   have hg : L[j]? = some L[j]:=List.getElem?_eq_getElem hjl;obtain ⟨q,o,rfl,hq,y0,y1,y2,y3,y4,y5⟩:=(H.out.later hbl).AnV hg
   have hlt0 : w.heap.size < wr.heap.size:=by
    obtain ⟨_,_,ee,_,_,_,h4⟩:=oR.form
    injection ee with ee
    obtain ⟨g',e2,_,h5⟩:=h4 _ ee.symm
    cases e2
    exact h5
   have hRl : R.length = j:=by rw [tR.1,List.length_take];omega
   have hset : Hid (∀ y,(R ++ List.replicate (n - j) yAnA.z).set j y = (R ++ [y]) ++ List.replicate (n - (j + 1)) yAnA.z):=fun y => by
    rw [List.set_append_right _ _ (by omega),hRl,Nat.sub_self,show n - j = (n - (j + 1)) + 1 by omega,List.replicate_succ,List.set_cons_zero,List.append_assoc,List.singleton_append]
   have hget : Hid ((R ++ List.replicate (n - j) yAnA.z)[j]? = some yAnA.z):=by
    show _ = _
    rw [List.getElem?_append_right (by omega),hRl,Nat.sub_self,show n - j = (n - (j + 1)) + 1 by omega,List.replicate_succ]
    rfl
   have HIN:=(HX.out _ (List.getElem_mem hjl)).later hbl;have HG:=hide hg;clear hg hRl
   generalize L[j] = x at *
   generalize hX : R ++ List.replicate (n - j) yAnA.z = XX at *
   clear hX
   have wz : Hid ((wr.alloc (.cells #[.int .i64 x.n,.int .u64 x.h,.int .u64 x.l,.int .i64 x.v,.int .i64 x.c,.slice x.s.a x.s.D.length x.s.c] 165)).heap.size = wr.heap.size + 1):=by show _ = _;simp
   have bw : Below wr.heap.size wr (wr.alloc (.cells #[.int .i64 x.n,.int .u64 x.h,.int .u64 x.l,.int .i64 x.v,.int .i64 x.c,.slice x.s.a x.s.D.length x.s.c] 165)):=(Below.refl _ wr).alloc LR _;have bA:=hide (hbl.trans (bw.mono hsz));have BW:=hide bw;have OA:=hide (oR.alloc (.cells #[.int .i64 x.n,.int .u64 x.h,.int .u64 x.l,.int .i64 x.v,.int .i64 x.c,.slice x.s.a x.s.D.length x.s.c] 165));have ca:=x.told_any _ (HIN.later bw);rw [wz.out] at ca;have CA:=hide ca;have HD:=hide HIN.2;have TR:=hide tR;clear ca oR tR HIN bw
   go_wp2_with fail
   refine CA.out.mono ?_;rintro e w2 ⟨rfl,o2,b2⟩;have OE:=hide o2;have b2':=b2;rw [← wz.out] at b2';have O2:=hide (OA.out.grow b2');have hk2:=hide (O2.out.kind (g:=w.heap.size) rfl);have z2:=b2.size;rw [wz.out] at z2;have bw2:=hide (BW.out.trans (b2.mono (by omega)));clear o2 b2'
   dsimp only
   go_wp2_with (first
    | (refine storeY kAnA _ rfl 77 (.tmp 23) (.tmp 22) rfl w.heap.size w.heap.size n n XX j 0 yAnA.z (x.re (wr.heap.size + 1 + 2)) _ rfl rfl hget.out (by kernel_rfl) (by exact (by decide : 6 ≤ 6)) rfl O2.out ?_;intro w3 o3 u3 z3;have O3:=hide o3;have U3:=hide u3;clear o3 u3)
    | go_in)
   go_round
   case rel =>
    refine ⟨j + 1,by go_num,by omega,⟨R ++ [x.re (wr.heap.size + 1 + 2)],by rw [← hset.out];exact O3.out,TR.out.snoc HG.out (by omega) bw2.out HD.out OE.out U3.out hk2.out⟩,hbl.trans ((bw2.out.mono hsz).trans (U3.out.below (by omega) (fun k e => by subst e;exact LR)))⟩
   case measure => simp [intOf];omega
  ·obtain rfl : j = n:=by omega
   have O9 : Hid (∃ R,OwnY yAnA w.heap.size wr (.slice (some ⟨w.heap.size,0,none⟩) j j) R∧An.Tolds w.heap.size wr L R):=by
    refine ⟨R,?_,?_⟩
    ·rw [Nat.sub_self,List.replicate_zero,List.append_nil] at oR
     exact oR
    ·rw [List.take_of_length_le (by rw [HN.out];exact LR)] at tR
     exact tR
   clear oR tR
   go_wp2
   go_ret
   exact ⟨rfl,O9.out,hbl⟩
end Go.Proofs.YtpcgnjpodnebpaaGreatDoor
namespace Go.Proofs.YtpcgnjpodnebpaaGreatDoor
open Go.RowKit Go.Maps Go.Shelf
open Classical
theorem ret_int {k : IntKind} {a b : Int} (h : a = b) : Ending.returned (.int k a) = .returned (.int k b):=by rw [h]
def ckE (e : En) : Int:=if e.c < 0 ∨ 16 ≤ e.c then 62 else if e.n < 1 then 63 else ck e.o.k e.o.s e.o.v
def gm : List En → Int → Int
 | [],_ => 0
 | e :: r,c => if e.c = c then max e.n (gm r c) else gm r c
theorem gm_snoc : ∀ (L : List En) (e : En) (c : Int),gm (L ++ [e]) c = if e.c = c then max (gm L c) e.n else gm L c
 | [],e,c => by simp [gm];split <;> omega
 | y :: r,e,c => by
  have ih:=gm_snoc r e c;simp only [List.cons_append,gm,ih]
  split <;> split <;> omega
def tw (L : List En) (e : En) : Bool:=L.any (fun p => decide (p.c = e.c) && decide (e.n ≤ p.n))
theorem gm_cons (y : En) (r : List En) (c : Int) : gm (y :: r) c = if y.c = c then max y.n (gm r c) else gm r c:=rfl
theorem tw_iff (e : En) (h : 1 ≤ e.n) : ∀ L : List En,tw L e = decide (e.n ≤ gm L e.c)
 | [] => by
  have : ¬ e.n ≤ 0:=by omega
  simp [tw,gm,this]
 | y :: r => by
  have ih:=tw_iff e h r
  unfold tw at ih ⊢
  rw [List.any_cons,ih,gm_cons]
  by_cases h1 : y.c = e.c
  ·rw [if_pos h1]
   have hm : e.n ≤ max y.n (gm r e.c) ↔ e.n ≤ y.n ∨ e.n ≤ gm r e.c:=by omega
   simp only [h1,decide_true,Bool.true_and];rw [Bool.eq_iff_iff]
   simp [hm]
  ·rw [if_neg h1]
   simp [h1]
theorem tw_snoc (L : List En) (p e : En) : tw (L ++ [p]) e = (tw L e || (decide (p.c = e.c) && decide (e.n ≤ p.n))):=by simp [tw]
def er (past : List En) (e : En) : Int:=if ckE e ≠ 0 then ckE e else if tw past e then 64 else 0
def lgA : List En → List En → Int
 | _,[] => 0
 | past,e :: r => if er past e ≠ 0 then er past e else lgA (past ++ [e]) r
def lg (L : List En) (room : Int) : Int:=if room < L.length then 60 else lgA [] L
theorem lgA_at {L : List En} {j : Nat} {e : En} (h : L[j]? = some e) : lgA (L.take j) (L.drop j) = if er (L.take j) e ≠ 0 then er (L.take j) e else lgA (L.take (j + 1)) (L.drop (j + 1)):=by
 have hj:=(List.getElem?_eq_some_iff.1 h).1;have he:=(List.getElem?_eq_some_iff.1 h).2;rw [List.drop_eq_getElem_cons hj,he,lgA,List.take_add_one,h]
 rfl
theorem lgA_end (L : List En) : lgA (L.take L.length) (L.drop L.length) = 0:=by simp [lgA]
theorem ckE_zero {e : En} (h : ckE e = 0) : 0 ≤ e.c∧e.c < 16∧1 ≤ e.n∧ck e.o.k e.o.s e.o.v = 0:=by
 unfold ckE at h
 by_cases h1 : e.c < 0 ∨ 16 ≤ e.c
 ·simp [h1] at h
 ·by_cases h2 : e.n < 1
  ·simp [h1,h2] at h
  ·simp [h1,h2] at h
   exact ⟨by omega,by omega,by omega,h⟩
def Arr (w : World) (g : Nat) (t : TypeId) (xs : List Value) : Prop:=w.ownsRow 0 t 1 (.slice (some ⟨g,0,none⟩) xs.length xs.length) xs.length xs
theorem Arr.new (w : World) (t : TypeId) (n : Nat) (z : Value) (hn : n ≤ 1024) : Arr (w.alloc (.cells (Array.replicate n z) t)) w.heap.size t (List.replicate n z) :=
 ⟨by simp,.inr ⟨w.heap.size,n,Array.replicate n z,by simp,Nat.zero_le _,(MapKept.heap_alloc w _).1,by simp,by unfold maxLen;omega,by simp,by simp⟩⟩
theorem Arr.cell {w : World} {g : Nat} {t : TypeId} {xs : List Value} (h : Arr w g t xs) {i : Nat} {u : Value} (hi : xs[i]? = some u) : w.cell? ⟨g,i,none⟩ = some u:=by
 have:=World.ownsRow.cells h (g:=g) rfl i u hi;rw [Addr.add_lit,Nat.zero_add] at this
 exact this
theorem Arr.free {w : World} {g : Nat} {t : TypeId} {xs : List Value} (h : Arr w g t xs) (i : Nat) : w.frozen? ⟨g,i,none⟩ = false:=World.ownsRow.frozenAt h i
theorem Arr.set {w : World} {g : Nat} {t : TypeId} {xs : List Value} (h : Arr w g t xs) (i : Nat) (u : Value) : Arr (w.setCell ⟨g,i,none⟩ u) g t (xs.set i u):=by
 unfold Arr at *
 rw [List.length_set]
 exact (World.ownsRow.stored h i u).1
theorem Arr.upd {S : Nat → Prop} {w w' : World} {g : Nat} {t : TypeId} {xs : List Value} (h : Arr w g t xs) (u : Upd S w w') (hs : ¬ S g) : Arr w' g t xs:=by
 obtain ⟨h1,h2⟩:=h;refine ⟨h1,?_⟩
 rcases h2 with ⟨e,_⟩ | ⟨g',cap,cur,e1,e2,e3,r⟩
 ·cases e
 ·have e0:=e1
  injection e1 with e1
  injection e1 with e1
  injection e1 with e1
  subst e1;refine .inr ⟨g,cap,cur,e0,e2,?_,r⟩;rw [u.block g (Array.getElem?_eq_some_iff.1 e3).1 hs]
  exact e3
theorem Arr.later {w w' : World} {g : Nat} {t : TypeId} {xs : List Value} (h : Arr w g t xs) (hb : Below w.heap.size w w') : Arr w' g t xs:=h.upd (S:=fun _ => False) (Upd.of_below hb) id
end Go.Proofs.YtpcgnjpodnebpaaGreatDoor
namespace Go.Proofs.YtpcgnjpodnebpaaGreatDoor
open Go.RowKit Go.Maps Go.Shelf
open Classical
attribute [local go_sem] Oper.semAt_some
def En.val (x : En) : Value:=.agg #[.int .i64 x.c,.int .i64 x.n,.int .i64 x.o.k,.int .i64 x.o.s,.string x.o.v]
theorem yieldE_nil (l : Nat) (w : World) : (binOp .eql 116 (.func (.yield l) #[] #[]) .nilFunc).run Tryz.prog w = .ok (.bool false) w:=by kernel_rfl
theorem LieY.at5 {w : World} {g : Nat} {D : List En} (h : LieY yE w g 0 D) {i : Nat} {x : En} (hx : D[i]? = some x) : w.cell? ⟨g,i * 5,none⟩ = some (.int .i64 x.c)∧w.cell? ⟨g,i * 5 + 1,none⟩ = some (.int .i64 x.n)∧w.cell? ⟨g,i * 5 + 2,none⟩ = some (.int .i64 x.o.k)∧w.cell? ⟨g,i * 5 + 3,none⟩ = some (.int .i64 x.o.s)∧w.cell? ⟨g,i * 5 + 4,none⟩ = some (.string x.o.v):=by
 have h0:=h i x hx 0 _ rfl;have h1:=h i x hx 1 _ rfl;have h2:=h i x hx 2 _ rfl;have h3:=h i x hx 3 _ rfl;have h4:=h i x hx 4 _ rfl;simp only [Nat.zero_add] at h0 h1 h2 h3 h4
 exact ⟨h0,h1,h2,h3,h4⟩
theorem eachO1_in (n : Nat) (hn : 1 ≤ n) (l k f g : Nat) (first : Int) (D : List En) (J Jx : Nat → World → Prop) (h1 : 1 ≤ first) (h2 : first + D.length < 9223372036854775807)
  (hY : ∀ i x W,D[i]? = some x → J i W → YieldAt Fence.wide (n - 1) Tryz.prog l #[.int .i64 (first + (i : Int)),x.val] W fun e W' => (e = .returned (.bool true)∧J (i + 1) W') ∨ (e = .returned (.bool false)∧Jx i W'))
  (hJa : ∀ i W o,J i W → J i (W.alloc o))
  (hJk : ∀ i W,J i W → LieY yE W g 0 D∧W.cell? ⟨f,0,none⟩ = some (.int .i64 first)∧f < W.heap.size) (W : World) (hk : W.cell? ⟨k,0,none⟩ = some (.slice (some ⟨g,0,none⟩) D.length D.length)) (hD : D.length * 48 ≤ 140737488355328) (h0 : J 0 W) :
  CallsIn Fence.wide n Tryz.prog 143 #[.func (.yield l) #[] #[],.pointer (some ⟨k,0,none⟩),.pointer (some ⟨f,0,none⟩)] W fun e W' => (∃ v,e = .returned v)∧(J D.length W' ∨ ∃ i,i < D.length∧Jx i W'):=by
 have hYh:=hide hY;have hJh:=hide hJk;clear hY hJk;refine callsIn_of_wp Tryz.func143 rfl trivial ?_ rfl;simp only [Tryz.ntmps143,List.size_toArray,List.length_cons,List.length_nil,Nat.reduceAdd,Nat.reduceSub,Array.replicate_succ,Array.replicate_zero,List.push_toArray,List.append_toArray,List.nil_append,List.cons_append];have q:=yieldE_nil l
 gi_wp2
 gi_loopw [10] (fun i wr => ∃ k : Nat,i = .int .i64 (k : Int)∧k ≤ D.length∧J k wr) (fun i _ => D.length - (intOf i).toNat)
 case atStart => exact ⟨0,rfl,Nat.zero_le _,h0⟩
 case round =>
  obtain ⟨i,rfl,hi,hJ⟩:=hrel
  by_cases hlt : i < D.length
  ·have hd:=List.getElem?_eq_getElem hlt
   obtain ⟨hl,hf,hfl⟩:=hJh.out _ _ hJ;obtain ⟨e0,e1,e2,e3,e4⟩:=hl.at5 hd;have hq : W.heap.size = W.heap.size:=rfl
   have hfa : ∀ o,(wr.alloc o).cell? ⟨f,0,none⟩ = some (.int .i64 first):=fun o => (World.cell?_alloc_past _ _ _ hfl).trans hf
   generalize D[i] = x at *
   obtain ⟨fn,tmps,assign,body,hy,hR⟩:=hYh.out i x (wr.alloc (Obj.cells #[.int .i64 x.c,.int .i64 x.n,.int .i64 x.o.k,.int .i64 x.o.s,.string x.o.v] 47)) hd (hJa _ _ _ hJ);clear hd hq hl
   unfold En.val at hy
   gi_wp2
   refine hR.mono ?_;rintro e W3 (⟨rfl,hJ3⟩ | ⟨rfl,hJ3⟩)
   ·gi_wp2
    go_roundw
    case rel => exact ⟨i + 1,by simp,by omega,hJ3⟩
    case measure => simp [intOf];omega
   ·gi_wp2
    refine bodyPost_ret (results_none rfl _ _ _) rfl ?_
    exact ⟨⟨_,rfl⟩,.inr ⟨i,hlt,hJ3⟩⟩
  ·have he : i = D.length:=by omega
   subst he
   gi_wp2
   go_end0
   exact ⟨⟨_,rfl⟩,.inl hJ⟩
def eachPost (I : Nat → World → Prop) (Ix : Code → Nat → World → Prop) (z i : Nat) (W : World) : Exit → Act → World → Prop
 | .normal,_,W' => (W'.heap[z]? = W.heap[z]?∧W'.heap[z + 1]? = W.heap[z + 1]?)∧I (i + 1) W'
 | .ret,_,W' => (W'.heap[z]? = W.heap[z]?∧W'.heap[z + 1]? = W.heap[z + 1]?)∧Ix .ret i W'
 | .exit id,_,W' => (W'.heap[z]? = W.heap[z]?∧W'.heap[z + 1]? = W.heap[z + 1]?)∧Ix (.exit id) i W'
 | .goto t,_,W' => (W'.heap[z]? = W.heap[z]?∧W'.heap[z + 1]? = W.heap[z + 1]?)∧Ix (.goto t) i W'
 | .panic _,_,_ => False
 | .outgrown,_,_ => False
def recO (fn : FuncId) (tmps : Array Value) (ps : Array Tmp) (assign body : Code) (z : Nat) (st : LoopState) (pe : Option Code) : Loop:={ state:=st,pending:=pe,fn,tmps,params:=ps,assign,body,defers:=z }
theorem over_each {n : Nat} {gg : Operand} {ps : Array Tmp} {assign body : Code} {Q : Exit → Act → World → Prop} {a : Act} {w : World} (hn : 2 ≤ n) (D : List En) (first : Int) (k f g : Nat)
  (hg : a.eval gg = .func (.func 143) #[] #[.pointer (some ⟨k,0,none⟩),.pointer (some ⟨f,0,none⟩)]) (hps : ps.size = 2)
  (h1 : 1 ≤ first) (h2 : first + D.length < 9223372036854775807) (hD : D.length * 48 ≤ 140737488355328)
  (hkl : k < w.heap.size) (hfl : f < w.heap.size) (hgl : g < w.heap.size)
  (hk : w.cell? ⟨k,0,none⟩ = some (.slice (some ⟨g,0,none⟩) D.length D.length)) (hf : w.cell? ⟨f,0,none⟩ = some (.int .i64 first)) (hl : LieY yE w g 0 D)
  (I : Nat → World → Prop) (Ix : Code → Nat → World → Prop)
  (hI : ∀ i W W' row,I i W → W.grownBy W' row → (∀ r,row = some r → r = w.heap.size + 1) → I i W')
  (hIx : ∀ c i W W',Ix c i W → W.grownBy W' (some (w.heap.size + 1)) → Ix c i W')
  (hIk : ∀ i W,I i W → w.heap.size ≤ W.heap.size∧∀ j,j = g ∨ j = k ∨ j = f → W.heap[j]? = w.heap[j]?)
  (h0 : I 0 w)
  (hround : ∀ i x W,D[i]? = some x → I i W → w.heap.size + 1 < W.heap.size →
   assign.wpIn (Fence.wide.inRound (w.heap.size + 1)) (n - 1 - 1) Tryz.prog (Exit.then (fun a₁ W₁ => (I i W₁∧W₁.heap[w.heap.size]? = W.heap[w.heap.size]?∧W₁.heap[w.heap.size + 1]? = W.heap[w.heap.size + 1]?)∧∀ W₂,I i W₂ → W₁.grownBy W₂ (some (w.heap.size + 1)) → body.wpIn (Fence.wide.inRound (w.heap.size + 1)) (n - 1 - 1) Tryz.prog (eachPost I Ix w.heap.size i W₂) a₁ W₂) (fun _ _ _ => False))
    { tmps:=(ps.zip #[.int .i64 (first + (i : Int)),x.val]).foldl (fun t (p,v) => t.setIfInBounds p v) a.tmps,defers:=[] } W)
  (hdone : ∀ W,I D.length W → W.heap[w.heap.size]? = some (.deferred (some [])) → Q .normal { a with defers:=[{ target:=.collected w.heap.size,args:=#[] }] ++ a.defers } W)
  (hstop : ∀ c i W,i < D.length → Ix c i W → W.heap[w.heap.size]? = some (.deferred (some [])) → c.wpIn Fence.wide n Tryz.prog Q { a with defers:=[{ target:=.collected w.heap.size,args:=#[] }] ++ a.defers } W) :
  (Code.rangeFunc gg ps assign body).wpIn Fence.wide n Tryz.prog Q a w:=by
 refine wpIn_rangeFunc fun fn hfn => ?_
 obtain ⟨rec,hrec⟩ : ∃ rec,rec = recO fn a.tmps ps assign body w.heap.size:=⟨_,rfl⟩
 obtain ⟨W1,hW1⟩ : ∃ W1,W1 = (w.alloc (.deferred (some []))).alloc (.loop (rec .ready none)):=⟨_,rfl⟩
 have he : (Instr.enterLoop fn a.tmps ps assign body none).run Tryz.prog w = .ok (w.heap.size + 1,[{ target:=.collected w.heap.size,args:=#[] }]) W1:=by
  rw [hW1,hrec]
  exact run_enterLoop_outer fn a.tmps ps assign body
 have hL1 : W1.heap[w.heap.size + 1]? = some (.loop (rec .ready none)):=by
  rw [hW1];have:=World.alloc_heap_new (w.alloc (.deferred (some []))) (.loop (rec .ready none));rwa [World.size_alloc] at this
 have hK1 : W1.heap[w.heap.size]? = some (.deferred (some [])):=by
  rw [hW1];exact (Below.heap_alloc _ _ _ (by simp)).trans (World.alloc_heap_new w _)
 have hI1 : I 0 W1:=by
  rw [hW1]
  exact hI _ _ _ none (hI _ _ _ none h0 (World.grownBy_alloc w _ none) (fun r e => by cases e)) (World.grownBy_alloc _ _ none) (fun r e => by cases e)
 have hkc : W1.cell? ⟨k,0,none⟩ = some (.slice (some ⟨g,0,none⟩) D.length D.length):=by
  rw [← hk]
  exact World.cell?_of_block (a:=⟨k,0,none⟩) ((hIk 0 W1 hI1).2 k (.inr (.inl rfl)))
 have hres : (resolve a.eval (rangeCall gg (w.heap.size + 1)) 0).run Tryz.prog W1 = .ok { target:=.fn (.func 143) #[.pointer (some ⟨k,0,none⟩),.pointer (some ⟨f,0,none⟩)],args:=#[.func (.yield (w.heap.size + 1)) #[] #[]] } W1:=by
  simp only [resolve,hg]
  simp [go_sem]
 have eg : ∀ args w,(callFunc 143 args).run Tryz.prog w = .ok (.enter 143 args) w:=enters_of Tryz.func143 (by kernel_rfl) rfl
 have hinv : (invoke (.fn (.func 143) #[.pointer (some ⟨k,0,none⟩),.pointer (some ⟨f,0,none⟩)]) #[.func (.yield (w.heap.size + 1)) #[] #[]]).run Tryz.prog W1 = .ok (.enter 143 #[.func (.yield (w.heap.size + 1)) #[] #[],.pointer (some ⟨k,0,none⟩),.pointer (some ⟨f,0,none⟩)]) W1:=by
  simp [invoke,go_sem,eg]
 refine ⟨w.heap.size + 1,[{ target:=.collected w.heap.size,args:=#[] }],W1,_,W1,143,_,W1,he,hres,?_,hinv,?_,?_⟩
 ·intro f' _;trivial
 ·intro _;omega
 refine (eachO1_in (n - 1) (by omega) (w.heap.size + 1) k f g first D
  (fun i W => I i W∧W.heap[w.heap.size + 1]? = some (.loop (rec .ready none))∧W.heap[w.heap.size]? = some (.deferred (some [])))
  (fun i W => ∃ c,Ix c i W∧W.heap[w.heap.size + 1]? = some (.loop (rec .done (some c)))∧W.heap[w.heap.size]? = some (.deferred (some []))) h1 h2 ?_ ?_ ?_ W1 hkc hD ⟨hI1,hL1,hK1⟩).mono ?_
 ·rintro i x W hx ⟨hi,hl,hk⟩
  have hlt : w.heap.size + 1 < W.heap.size:=(Array.getElem?_eq_some_iff.1 hl).1;have hy:=run_yield (P:=Tryz.prog) (args:=#[.int .i64 (first + (i : Int)),x.val]) hl (by rw [hrec];exact hps.symm);rw [hrec] at hy;refine ⟨fn,_,assign,body,hy,roundIn_of_wpIn trivial (wpIn_mono (hround i x W hx hi hlt) fun e a1 w1 hq => ?_)⟩;clear hy
  cases e with
  | normal =>
   obtain ⟨⟨hi1,hz0,hz1⟩,hb⟩:=hq;have hl1:=hz1.trans hl;have hk1:=hz0.trans hk;have hlt1 : w.heap.size + 1 < w1.heap.size:=(Array.getElem?_eq_some_iff.1 hl1).1;refine ⟨_,run_beginRound hl1 (by rw [hrec];rfl),?_⟩;have hg2:=grownBy_putObj' w1 (w.heap.size + 1) (.loop { rec .ready none with state:=.busy });have hl2 : (w1.putObj (w.heap.size + 1) (.loop { rec .ready none with state:=.busy })).heap[w.heap.size + 1]? = some (.loop { rec .ready none with state:=.busy }):=World.putObj_heap_same hlt1;have hk2 : (w1.putObj (w.heap.size + 1) (.loop { rec .ready none with state:=.busy })).heap[w.heap.size]? = some (.deferred (some [])):=(World.putObj_heap_other (by omega)).trans hk1
   refine wpIn_mono (hb _ (hI _ _ _ _ hi1 hg2 (fun r e => by cases e;rfl)) hg2) fun e2 a3 W3 hp => ?_
   have fin : ∀ (jump : Option Code),(W3.heap[w.heap.size]? = (w1.putObj (w.heap.size + 1) (.loop { rec .ready none with state:=.busy })).heap[w.heap.size]?∧W3.heap[w.heap.size + 1]? = (w1.putObj (w.heap.size + 1) (.loop { rec .ready none with state:=.busy })).heap[w.heap.size + 1]?) →
     (Instr.endRound (w.heap.size + 1) jump).run Tryz.prog W3 = .ok (.bool jump.isNone) (W3.putObj (w.heap.size + 1) (.loop (rec (if jump.isNone then .ready else .done) jump))) ∧
     (W3.putObj (w.heap.size + 1) (.loop (rec (if jump.isNone then .ready else .done) jump))).heap[w.heap.size + 1]? = some (.loop (rec (if jump.isNone then .ready else .done) jump)) ∧
     (W3.putObj (w.heap.size + 1) (.loop (rec (if jump.isNone then .ready else .done) jump))).heap[w.heap.size]? = some (.deferred (some [])):=fun jump hkk => by
    have hl3:=hkk.2.trans hl2;have:=run_endRound (P:=Tryz.prog) jump hl3;rw [hrec] at this ⊢
    exact ⟨this,World.putObj_heap_same (Array.getElem?_eq_some_iff.1 hl3).1,(World.putObj_heap_other (by omega)).trans (hkk.1.trans hk2)⟩
   cases e2 with
   | normal =>
    obtain ⟨hkk,hi3⟩:=hp;obtain ⟨hr,hl4,hk4⟩:=fin none hkk
    exact ⟨_,_,hr,.inl ⟨rfl,hI _ _ _ _ hi3 (grownBy_putObj' W3 _ _) (fun r e => by cases e;rfl),hl4,hk4⟩⟩
   | ret =>
    obtain ⟨hkk,hi3⟩:=hp;obtain ⟨hr,hl4,hk4⟩:=fin (some .ret) hkk
    exact ⟨_,_,hr,.inr ⟨rfl,_,hIx _ _ _ _ hi3 (grownBy_putObj' W3 _ _),hl4,hk4⟩⟩
   | exit id =>
    obtain ⟨hkk,hi3⟩:=hp;obtain ⟨hr,hl4,hk4⟩:=fin (some (.exit id)) hkk
    exact ⟨_,_,hr,.inr ⟨rfl,_,hIx _ _ _ _ hi3 (grownBy_putObj' W3 _ _),hl4,hk4⟩⟩
   | goto t =>
    obtain ⟨hkk,hi3⟩:=hp;obtain ⟨hr,hl4,hk4⟩:=fin (some (.goto t)) hkk
    exact ⟨_,_,hr,.inr ⟨rfl,_,hIx _ _ _ _ hi3 (grownBy_putObj' W3 _ _),hl4,hk4⟩⟩
   | panic ch => exact hp.elim
   | outgrown => exact hp.elim
  | ret => exact hq.elim
  | exit id => exact hq.elim
  | goto t => exact hq.elim
  | panic ch => exact hq.elim
  | outgrown => exact hq.elim
 ·rintro i W o ⟨hi,hl,hk⟩
  have hg2:=World.grownBy_alloc W o none
  exact ⟨hI _ _ _ none hi hg2 (fun r e => by cases e),(hg2.block _ (Array.getElem?_eq_some_iff.1 hl).1 nofun).trans hl,(hg2.block _ (Array.getElem?_eq_some_iff.1 hk).1 nofun).trans hk⟩
 ·rintro i W ⟨hi,_,_⟩
  obtain ⟨hsz,hbl⟩:=hIk i W hi;refine ⟨fun j x hx p u hu => ?_,?_,by omega⟩
  ·rw [← hl j x hx p u hu]
   exact World.cell?_of_block (a:=⟨g,_,none⟩) (hbl g (.inl rfl))
  ·rw [← hf]
   exact World.cell?_of_block (a:=⟨f,0,none⟩) (hbl f (.inr (.inr rfl)))
 ·rintro e W2 ⟨⟨v,rfl⟩,(⟨hi,hl,hk⟩ | ⟨i,hlt,c,hi,hl,hk⟩)⟩
  ·refine ⟨none,_,by have:=run_endLoop (P:=Tryz.prog) hl (by rw [hrec];simp [recO]);rw [hrec] at this;exact this,?_⟩
   exact hdone _ (hI _ _ _ _ hi (grownBy_putObj' W2 _ _) (fun r e => by cases e;rfl)) ((World.putObj_heap_other (by omega)).trans hk)
  ·refine ⟨some c,_,by have:=run_endLoop (P:=Tryz.prog) hl (by rw [hrec];simp [recO]);rw [hrec] at this;exact this,?_⟩
   exact hstop c i _ hlt (hIx _ _ _ _ hi (grownBy_putObj' W2 _ _)) ((World.putObj_heap_other (by omega)).trans hk)
end Go.Proofs.YtpcgnjpodnebpaaGreatDoor
