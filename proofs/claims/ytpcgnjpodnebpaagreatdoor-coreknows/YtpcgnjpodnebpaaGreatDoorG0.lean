import Derived.Test.YtpcgnjpodnebpaaGreatDoorRows
import Derived.Maps.OwnSet
import Derived.Maps.RangeWalk
import Derived.WalkKit
import Derived.WalkSpells
import Derived.WalkLawsBesides
import Derived.Below
import Derived.Deep.QuietTactic
import Derived.BigQuiet
import Derived.Deep.RegionWith
import Derived.Deep.RegionLaw
import Derived.Deep.Light
import Derived.Deep.RegionHeld3
import Derived.Laws.OwnMore
import Derived.Laws.StructEq
import Derived.Laws.AppendOwnNone
import Derived.Sort.OwnSorted
import Derived.Maps.Views
import Derived.Laws.CopyRow
import Derived.Deep.MidRow
import Derived.Deep.Cut
import Derived.OrdersHeld
set_option maxRecDepth 100000
set_option linter.unusedVariables false
set_option linter.unusedSimpArgs false
set_option maxHeartbeats 8000000
namespace Go.Proofs.YtpcgnjpodnebpaaGreatDoor
theorem pu (a : Act) (d : Tmp) (v : Value) : a.put (some d) v = { a with tmps := a.tmps.setIfInBounds d v } := rfl
theorem pn (a : Act) (v : Value) : a.put none v = a := rfl
theorem pv {α : Type} (l : List α) (i : Nat) (a : α) : l.toArray.setIfInBounds i a = (l.set i a).toArray := by simp
theorem pw {α : Type} (a b : α) (l : List α) : (a :: l).set 0 b = b :: l := rfl
theorem px {α : Type} (a b : α) (l : List α) (n : Nat) : (a :: l).set (n + 1) b = a :: l.set n b := rfl
theorem LA {α β : Type} {f : α → β} {l : List α} : l.toArray.map f = (l.map f).toArray := by simp
theorem LB {α β : Type} {f : α → β} {a : α} {l : List α} : (a :: l).map f = f a :: l.map f := rfl
theorem LC {α β : Type} {f : α → β} : ([] : List α).map f = [] := rfl
theorem LR {n : Nat} : n ≤ n := Nat.le_refl n
theorem BR {b : Nat} {w : World} : RowKit.Below b w w := RowKit.Below.refl b w
theorem WL {P : Program} {Q : Exit → Act → World → Prop} {a : Act} {w : World} {id : Nat} {l : List Oper} (h : wpList P l.toArray Q l a w) : (Code.region id l.toArray false).wp P Q a w := wp_region_lit h
theorem WE {P : Program} {ops : Array Oper} {Q : Exit → Act → World → Prop} {a : Act} {w : World} (h : Q .normal a w) : wpList P ops Q [] a w := wpList_nil h
abbrev Cl:=Int × ByteArray
def gv (L : List Cl) (s : Int) : Option ByteArray:=(L.find? (fun p => p.1 == s)).map (·.2)
def bh : List Cl → Int
 | [] => 0
 | p :: r => max (p.1 + 1) (bh r)
def ins (p : Cl) : List Cl → List Cl
 | [] => [p]
 | y :: r => if p.1 < y.1 then p :: y :: r else y :: ins p r
def ck (k s : Int) (v : ByteArray) : Int :=
 if k = 1 ∨ k = 3 then
  if s < 0 ∨ 1024 ≤ s then 41 else if (if k = 1 then 64 else 0) < v.size then 42 else 0
 else if k = 2 ∨ k = 4 then
  if s ≠ 0 then 41 else if (if k = 2 then 64 else 0) < v.size then 42 else 0
 else 40
def wd (L : List Cl) (k s : Int) (v : ByteArray) : Int × Int × ByteArray :=
 if ck k s v ≠ 0 then (0,0,ByteArray.empty)
 else if k = 1 then match gv L s with
  | some x => (2,s,x)
  | none => (1,s,v)
 else if k = 2 then (if bh L < 1024 then (1,bh L,v) else (3,0,ByteArray.empty))
 else if k = 3 then match gv L s with
  | some x => (4,s,x)
  | none => (5,s,ByteArray.empty)
 else (6,L.length,ByteArray.empty)
def dn (L : List Cl) (k s : Int) (v : ByteArray) : List Cl:=if (wd L k s v).1 = 1 then ins (wd L k s v).2 L else L
end Go.Proofs.YtpcgnjpodnebpaaGreatDoor
namespace Go.Proofs.YtpcgnjpodnebpaaGreatDoor
open Go.RowKit Go.Maps
open Classical
theorem hide {p : Prop} (h : p) : Hid p:=h
structure Upd (S : Nat → Prop) (w w' : World) : Prop where
 os : w'.os = w.os
 tape : w'.tape = w.tape
 output : w'.output = w.output
 size : w.heap.size ≤ w'.heap.size
 block : ∀ k,k < w.heap.size → ¬ S k → w'.heap[k]? = w.heap[k]?
theorem Upd.refl (S : Nat → Prop) (w : World) : Upd S w w:=⟨rfl,rfl,rfl,LR,fun _ _ _ => rfl⟩
theorem Upd.trans {S : Nat → Prop} {a b c : World} (h : Upd S a b) (k : Upd S b c) : Upd S a c :=
 ⟨k.os.trans h.os,k.tape.trans h.tape,k.output.trans h.output,Nat.le_trans h.size k.size,fun i hi hs => (k.block i (Nat.lt_of_lt_of_le hi h.size) hs).trans (h.block i hi hs)⟩
theorem Upd.mono {S T : Nat → Prop} {w w' : World} (h : Upd S w w') (hs : ∀ k,k < w.heap.size → S k → T k) : Upd T w w' :=
 ⟨h.os,h.tape,h.output,h.size,fun k hk ht => h.block k hk (fun h2 => ht (hs k hk h2))⟩
theorem Upd.below {S : Nat → Prop} {w w' : World} {B : Nat} (h : Upd S w w') (hB : B ≤ w.heap.size) (hs : ∀ k,S k → B ≤ k) : Below B w w' :=
 ⟨h.os,h.tape,h.output,h.size,fun k hk => h.block k (by omega) (fun h2 => by have:=hs k h2;omega)⟩
theorem Upd.of_below {S : Nat → Prop} {w w' : World} (h : Below w.heap.size w w') : Upd S w w' :=
 ⟨h.os,h.tape,h.output,h.size,fun k hk _ => h.block k hk⟩
theorem Upd.drewN {S : Nat → Prop} {a w : World} (h : Upd S a w) (k : Nat) : Upd S a (w.drewN k):=⟨h.os,h.tape,h.output,h.size,h.block⟩
theorem Upd.alloc {S : Nat → Prop} {a w : World} (h : Upd S a w) (o : Obj) : Upd S a (w.alloc o) :=
 h.trans ⟨rfl,rfl,rfl,by simp,fun k hk _ => Below.heap_alloc _ _ _ hk⟩
theorem Upd.setCell {S : Nat → Prop} {a w : World} (h : Upd S a w) {p : Addr} (hp : S p.block ∨ a.heap.size ≤ p.block) (u : Value) : Upd S a (w.setCell p u) :=
 ⟨h.os,h.tape,h.output,by simpa [World.setCell] using h.size,fun k hk hs => (Below.heap_setCell w p u k (fun e => by
  rcases hp with hp | hp
  ·exact hs (e ▸ hp)
  ·omega)).trans (h.block k hk hs)⟩
theorem Upd.cell {S : Nat → Prop} {w w' : World} (h : Upd S w w') {p : Addr} (hp : p.block < w.heap.size) (hs : ¬ S p.block) : w'.cell? p = w.cell? p:=World.cell?_of_block (w:=w) (h.block p.block hp hs)
theorem Upd.frozen {S : Nat → Prop} {w w' : World} (h : Upd S w w') {p : Addr} (hp : p.block < w.heap.size) (hs : ¬ S p.block) : w'.frozen? p = w.frozen? p:=World.frozen?_of_block (w:=w) (h.block p.block hp hs)
theorem Upd.grownBy {S : Nat → Prop} {a w w' : World} {o : Option Nat} (h : Upd S a w) (hg : w.grownBy w' o) (ho : ∀ k,o = some k → k < a.heap.size → S k) : Upd S a w' :=
 ⟨hg.os.trans h.os,hg.tape.trans h.tape,hg.output.trans h.output,Nat.le_trans h.size hg.size,fun k hk hs => (hg.block k (Nat.lt_of_lt_of_le hk h.size) (fun e => hs (ho k e.symm hk))).trans (h.block k hk hs)⟩
structure Opn where
 k : Int
 s : Int
 v : ByteArray
def Opn.val (o : Opn) : Value:=.agg #[.int .i64 o.k,.int .i64 o.s,.string o.v]
structure Opn.fits (o : Opn) : Prop where
 kw : (Lit.int .i64 o.k).wf = true
 sw : (Lit.int .i64 o.s).wf = true
 vl : o.v.size ≤ maxLen
abbrev Rs:=Int × Int × ByteArray
theorem belN {B : Nat} {w w' : World} (h : Below B w w') (n : Nat) : Below B w (w'.drewN n):=⟨h.os,h.tape,h.output,h.size,h.block⟩
theorem isslot_any (s : Int) (w : World) : Calls Tryz.prog 153 #[.int .i64 s] w fun e w' => e = .returned (.bool (decide (0 ≤ s∧s < 1024)))∧w' = w:=by
 by_cases h1 : 0 ≤ s
 ·by_cases h2 : s < 1024
  ·go_enter Tryz.func153,Tryz.ntmps153
   go_wp2
   go_ret
   exact ⟨by simp [h1,h2],rfl⟩
  ·go_enter Tryz.func153,Tryz.ntmps153
   go_wp2
   go_ret
   exact ⟨by simp [h2],rfl⟩
 ·go_enter Tryz.func153,Tryz.ntmps153
  go_wp2
  go_ret
  exact ⟨by simp;omega,rfl⟩
theorem rest_any (k s : Int) (v : ByteArray) (n : Int) (w : World) (hv : v.size ≤ maxLen) : Calls Tryz.prog 154 #[.agg #[.int .i64 k,.int .i64 s,.string v],.int .i64 n] w fun e w' => e = .returned (.int .i64 (if s ≠ 0 then 41 else if n < v.size then 42 else 0))∧Below w.heap.size w w':=by
 by_cases h1 : s = 0
 ·subst h1
  by_cases h2 : n < v.size
  ·go_enter Tryz.func154,Tryz.ntmps154
   go_wp2
   go_ret
   exact ⟨by simp,(Below.refl _ w).alloc LR _⟩
  ·go_enter Tryz.func154,Tryz.ntmps154
   go_wp2
   go_ret
   exact ⟨by simp,(Below.refl _ w).alloc LR _⟩
 ·go_enter Tryz.func154,Tryz.ntmps154
  go_wp2
  go_ret
  exact ⟨by simp,(Below.refl _ w).alloc LR _⟩
theorem check_any (o : Opn) (ho : o.fits) (w : World) : Calls Tryz.prog 144 #[o.val] w fun e w' => e = .returned (.int .i64 (ck o.k o.s o.v))∧Below w.heap.size w w':=by
 obtain ⟨k,s,v⟩:=o;obtain ⟨hk,hs,hv⟩:=ho
 dsimp only at hk hs hv
 dsimp only [Opn.val]
 have c1:=fun W => isslot_any s W
 have c2:=fun k s n W => rest_any k s v n W hv
 by_cases k1 : k = 1
 ·subst k1
  by_cases h1 : 0 ≤ s∧s < 1024
  ·have e1 : ck 1 s v = if (0 : Int) ≠ 0 then 41 else if (64 : Int) < v.size then 42 else 0:=by
    unfold ck
    have : ¬ (s < 0 ∨ 1024 ≤ s):=by omega
    simp [this] <;> omega
   have c2:=c2 1 0 64;rw [← e1] at c2;clear e1
   generalize ck 1 s v = r at c2 ⊢
   have c1 : ∀ W,Calls Tryz.prog 153 #[.int .i64 s] W fun e w' => e = .returned (.bool true)∧w' = W:=fun W => by simpa [h1] using c1 W
   go_enter Tryz.func144,Tryz.ntmps144
   go_wp2_with (first | (go_at_call 153;refine (c1 _).mono ?_;rintro e w' ⟨rfl,rfl⟩) | (go_at_call 154;refine (c2 _).mono ?_;rintro e w' ⟨rfl,hb⟩))
   go_ret
   exact ⟨rfl,((Below.refl w.heap.size w).alloc LR _).trans (hb.mono (by simp))⟩
  ·have e1 : ck 1 s v = 41:=by
    unfold ck
    have : s < 0 ∨ 1024 ≤ s:=by omega
    simp [this]
   rw [e1];clear e1 c2
   have c1 : ∀ W,Calls Tryz.prog 153 #[.int .i64 s] W fun e w' => e = .returned (.bool false)∧w' = W:=fun W => by simpa [h1] using c1 W
   go_enter Tryz.func144,Tryz.ntmps144
   go_wp2_with (go_at_call 153;refine (c1 _).mono ?_;rintro e w' ⟨rfl,rfl⟩)
   go_ret
   exact ⟨rfl,(Below.refl w.heap.size w).alloc LR _⟩
 by_cases k2 : k = 2
 ·subst k2
  have e1 : ck 2 s v = if s ≠ 0 then 41 else if (64 : Int) < v.size then 42 else 0:=by
   unfold ck
   by_cases h : s = 0 <;> simp [h] <;> omega
  have c2:=c2 2 s 64;rw [← e1] at c2;clear e1
  generalize ck 2 s v = r at c2 ⊢
  clear c1
  go_enter Tryz.func144,Tryz.ntmps144
  go_wp2_with (go_at_call 154;refine (c2 _).mono ?_;rintro e w' ⟨rfl,hb⟩)
  go_ret
  exact ⟨rfl,((Below.refl w.heap.size w).alloc LR _).trans (hb.mono (by simp))⟩
 by_cases k3 : k = 3
 ·subst k3
  by_cases h1 : 0 ≤ s∧s < 1024
  ·have e1 : ck 3 s v = if (0 : Int) ≠ 0 then 41 else if (0 : Int) < v.size then 42 else 0:=by
    unfold ck
    have : ¬ (s < 0 ∨ 1024 ≤ s):=by omega
    simp [this]
   have c2:=c2 3 0 0;rw [← e1] at c2;clear e1
   generalize ck 3 s v = r at c2 ⊢
   have c1 : ∀ W,Calls Tryz.prog 153 #[.int .i64 s] W fun e w' => e = .returned (.bool true)∧w' = W:=fun W => by simpa [h1] using c1 W
   go_enter Tryz.func144,Tryz.ntmps144
   go_wp2_with (first | (go_at_call 153;refine (c1 _).mono ?_;rintro e w' ⟨rfl,rfl⟩) | (go_at_call 154;refine (c2 _).mono ?_;rintro e w' ⟨rfl,hb⟩))
   go_ret
   exact ⟨rfl,((Below.refl w.heap.size w).alloc LR _).trans (hb.mono (by simp))⟩
  ·have e1 : ck 3 s v = 41:=by
    unfold ck
    have : s < 0 ∨ 1024 ≤ s:=by omega
    simp [this]
   rw [e1];clear e1 c2
   have c1 : ∀ W,Calls Tryz.prog 153 #[.int .i64 s] W fun e w' => e = .returned (.bool false)∧w' = W:=fun W => by simpa [h1] using c1 W
   go_enter Tryz.func144,Tryz.ntmps144
   go_wp2_with (go_at_call 153;refine (c1 _).mono ?_;rintro e w' ⟨rfl,rfl⟩)
   go_ret
   exact ⟨rfl,(Below.refl w.heap.size w).alloc LR _⟩
 by_cases k4 : k = 4
 ·subst k4
  have e1 : ck 4 s v = if s ≠ 0 then 41 else if (0 : Int) < v.size then 42 else 0:=by
   unfold ck
   by_cases h : s = 0 <;> simp [h]
  have c2:=c2 4 s 0;rw [← e1] at c2;clear e1
  generalize ck 4 s v = r at c2 ⊢
  clear c1
  go_enter Tryz.func144,Tryz.ntmps144
  go_wp2_with (go_at_call 154;refine (c2 _).mono ?_;rintro e w' ⟨rfl,hb⟩)
  go_ret
  exact ⟨rfl,((Below.refl w.heap.size w).alloc LR _).trans (hb.mono (by simp))⟩
 have e1 : ck k s v = 40:=by simp [ck,k1,k2,k3,k4]
 rw [e1];clear e1 c1 c2
 have b1 : (k == 1) = false:=by simp [k1]
 have b2 : (k == 2) = false:=by simp [k2]
 have b3 : (k == 3) = false:=by simp [k3]
 have b4 : (k == 4) = false:=by simp [k4]
 go_enter Tryz.func144,Tryz.ntmps144
 go_wp2
 go_ret
 exact ⟨rfl,(Below.refl w.heap.size w).alloc LR _⟩
theorem bytes_inj (a b : ByteArray) : a.toList = b.toList ↔ a = b:=by
 rw [ByteArray.toList_eq,ByteArray.toList_eq];obtain ⟨⟨x⟩⟩:=a;obtain ⟨⟨y⟩⟩:=b
 simp
theorem info_parts {P : Program} {t : TypeId} {z : Option Value} {s b : Nat} (h : (P.info? t).map (fun i => (i.zero,i.size,i.bytes)) = some (z,s,b)) : ∃ i,P.info? t = some i∧i.zero = z∧i.size = s∧i.bytes = b:=by
 cases h2 : P.info? t with
 | none => rw [h2] at h;cases h
 | some i =>
  rw [h2] at h
  simp at h
  exact ⟨i,rfl,h.1,h.2.1,h.2.2⟩
end Go.Proofs.YtpcgnjpodnebpaaGreatDoor
namespace Go.Proofs.YtpcgnjpodnebpaaGreatDoor
open Go.RowKit Go.Maps
open Classical
structure Lay (α : Type) where
 T : TypeId
 ST : TypeId
 k : Nat
 by_ : Nat
 cs : α → List Value
 z : α
structure Lay.Ok {α : Type} (Y : Lay α) : Prop where
 kp : 0 < Y.k
 len : ∀ x,(Y.cs x).length = Y.k
 one : ∀ x u,u ∈ Y.cs x → u.oneCell' = true
 und : Tryz.prog.underlying Y.ST = some (.slice Y.T)
 info : ∃ zv : Value,(Tryz.prog.info? Y.T).map (fun i => (i.zero,i.size,i.bytes)) = some (some zv,Y.k,Y.by_)∧zv.cells = (Y.cs Y.z).toArray
variable {α : Type} {Y : Lay α}
def fl (Y : Lay α) : List α → List Value
 | [] => []
 | x :: r => Y.cs x ++ fl Y r
theorem fl_length (K : Y.Ok) : ∀ l : List α,(fl Y l).length = l.length * Y.k
 | [] => by simp [fl]
 | x :: r => by rw [fl,List.length_append,fl_length K r,K.len,List.length_cons,Nat.add_mul];omega
theorem fl_append : ∀ l m : List α,fl Y (l ++ m) = fl Y l ++ fl Y m
 | [],m => rfl
 | x :: r,m => by simp only [fl,List.cons_append,fl_append r m,List.append_assoc]
theorem fl_get (K : Y.Ok) : ∀ (l : List α) (i : Nat) (x : α),l[i]? = some x → ∀ j,j < Y.k → (fl Y l)[i * Y.k + j]? = (Y.cs x)[j]?
 | [],i,x,h,j,hj => by simp at h
 | y :: r,0,x,h,j,hj => by
  simp at h;subst h
  rw [fl,Nat.zero_mul,Nat.zero_add,List.getElem?_append_left (by rw [K.len];exact hj)]
 | y :: r,i + 1,x,h,j,hj => by
  have h' : r[i]? = some x:=by simpa using h
  rw [fl,List.getElem?_append_right (by rw [K.len,Nat.add_mul];omega),K.len,show (i + 1) * Y.k + j - Y.k = i * Y.k + j by rw [Nat.add_mul];omega]
  exact fl_get K r i x h' j hj
theorem fl_one (K : Y.Ok) : ∀ (l : List α) (u : Value),u ∈ fl Y l → u.oneCell' = true
 | [],u,h => by cases h
 | x :: r,u,h => by
  rcases List.mem_append.1 h with h | h
  ·exact K.one x u h
  ·exact fl_one K r u h
theorem div_pos_lt {j n k : Nat} (hk : 0 < k) (h : j < n * k) : j / k < n∧j % k < k∧j / k * k + j % k = j :=
 ⟨Nat.div_lt_of_lt_mul (by rw [Nat.mul_comm];exact h),Nat.mod_lt _ hk,by rw [Nat.mul_comm];exact Nat.div_add_mod j k⟩
theorem fl_inv (K : Y.Ok) (l : List α) (j : Nat) (u : Value) (h : (fl Y l)[j]? = some u) : ∃ x,l[j / Y.k]? = some x∧(Y.cs x)[j % Y.k]? = some u:=by
 have hj:=(List.getElem?_eq_some_iff.1 h).1;rw [fl_length K] at hj;obtain ⟨h1,h2,h3⟩:=div_pos_lt K.kp hj;refine ⟨_,List.getElem?_eq_getElem h1,?_⟩;rw [← fl_get K l _ _ (List.getElem?_eq_getElem h1) _ h2,h3]
 exact h
theorem fl_set1 (K : Y.Ok) {l : List α} {i : Nat} {x x' : α} (hx : l[i]? = some x) {j : Nat} {u : Value} (hj : j < Y.k) (hc : Y.cs x' = (Y.cs x).set j u) : (fl Y l).set (i * Y.k + j) u = fl Y (l.set i x'):=by
 have hi:=(List.getElem?_eq_some_iff.1 hx).1
 apply List.ext_getElem?
 intro p
 by_cases hp : p < l.length * Y.k
 ·obtain ⟨h1,h2,h3⟩:=div_pos_lt K.kp hp
  by_cases he : p / Y.k = i
  ·have e2 : (l.set i x')[p / Y.k]? = some x':=by rw [he];simp [hi]
   have:=fl_get K _ _ _ e2 _ h2;rw [h3] at this;rw [this,hc]
   by_cases hq : p % Y.k = j
   ·have e3 : i * Y.k + j = p:=by rw [← he,← hq];exact h3
    rw [e3,List.getElem?_set_self (by rw [fl_length K];exact hp),hq,List.getElem?_set_self (by rw [K.len];exact hj)]
   ·have e3 : i * Y.k + j ≠ p:=fun e => hq (by rw [← e,Nat.mul_comm,Nat.mul_add_mod,Nat.mod_eq_of_lt hj])
    have e4 : l[p / Y.k]? = some x:=by rw [he];exact hx
    have:=fl_get K _ _ _ e4 _ h2;rw [h3] at this;rw [List.getElem?_set_ne e3,this,List.getElem?_set_ne (fun e => hq e.symm)]
  ·have e3 : i * Y.k + j ≠ p:=fun e => he (by rw [← e,Nat.mul_comm,Nat.mul_add_div K.kp,Nat.div_eq_of_lt hj,Nat.add_zero])
   have e4 : (l.set i x')[p / Y.k]? = l[p / Y.k]?:=by rw [List.getElem?_set_ne (fun e => he e.symm)]
   have hg:=List.getElem?_eq_getElem h1;have t1:=fl_get K _ _ _ hg _ h2;have t2:=fl_get K _ _ _ (e4.trans hg) _ h2;rw [h3] at t1 t2;rw [List.getElem?_set_ne e3,t1,t2]
 ·rw [List.getElem?_eq_none (by rw [List.length_set,fl_length K];omega),List.getElem?_eq_none (by rw [fl_length K,List.length_set];omega)]
def OwnY (Y : Lay α) (B : Nat) (w : World) (v : Value) (l : List α) : Prop:=w.ownsRow B Y.T Y.k v l.length (fl Y l)
theorem OwnY.nil (Y : Lay α) (B : Nat) (w : World) : OwnY Y B w (.slice none 0 0) []:=World.ownsRow_nil w B Y.T Y.k
theorem OwnY.alloc {B : Nat} {w : World} {v : Value} {l : List α} (h : OwnY Y B w v l) (o : Obj) : OwnY Y B (w.alloc o) v l:=World.ownsRow.alloc h o
theorem OwnY.form {B : Nat} {w : World} {v : Value} {l : List α} (h : OwnY Y B w v l) : ∃ a c,v = .slice a l.length c∧l.length ≤ c∧c ≤ maxLen∧(a = none → l = []∧c = 0)∧∀ x,a = some x → ∃ g,x = ⟨g,0,none⟩∧B ≤ g∧g < w.heap.size:=by
 rcases h.2 with ⟨e1,e2⟩ | ⟨g,cap,cur,e1,e2,e3,e4,e5,_⟩
 ·exact ⟨none,0,by rw [e1,e2],by omega,by unfold maxLen;omega,fun _ => ⟨List.eq_nil_of_length_eq_zero e2,rfl⟩,fun x hx => by cases hx⟩
 ·refine ⟨some ⟨g,0,none⟩,cap,e1,e4,e5,(fun hx => by cases hx),fun x hx => ?_⟩
  cases hx
  exact ⟨g,rfl,e2,(Array.getElem?_eq_some_iff.1 e3).1⟩
theorem OwnY.cell (K : Y.Ok) {B : Nat} {w : World} {g n c : Nat} {l : List α} (h : OwnY Y B w (.slice (some ⟨g,0,none⟩) n c) l) (i : Nat) (x : α) (hx : l[i]? = some x) (j : Nat) (u : Value) (hu : (Y.cs x)[j]? = some u) : w.cell? ⟨g,i * Y.k + j,none⟩ = some u:=by
 have hj:=(List.getElem?_eq_some_iff.1 hu).1;rw [K.len] at hj;have h0:=World.ownsRow.cells h (g:=g) rfl (i * Y.k + j) u (by rw [fl_get K l i x hx j hj];exact hu);rw [Addr.add_lit,Nat.zero_add] at h0
 exact h0
theorem OwnY.upd1 {S : Nat → Prop} {B : Nat} {w w' : World} {v : Value} {l : List α} (h : OwnY Y B w v l) (u : Upd S w w') (hs : ∀ g,v.ownBlock = some g → ¬ S g) : OwnY Y B w' v l:=by
 obtain ⟨h1,h2⟩:=h;refine ⟨h1,?_⟩
 rcases h2 with h2 | ⟨g,cap,cur,e1,e2,e3,r⟩
 ·exact .inl h2
 ·refine .inr ⟨g,cap,cur,e1,e2,?_,r⟩
  rw [u.block g (Array.getElem?_eq_some_iff.1 e3).1 (hs g (by rw [e1];rfl))]
  exact e3
theorem OwnY.blk {B : Nat} {w : World} {v : Value} {l : List α} (h : OwnY Y B w v l) : ∀ k,v.ownBlock = some k → B ≤ k∧k < w.heap.size:=World.ownsRow.lt h
theorem OwnY.grow {B : Nat} {w w' : World} {v : Value} {l : List α} (h : OwnY Y B w v l) (hb : Below w.heap.size w w') : OwnY Y B w' v l:=h.upd1 (S:=fun _ => False) (Upd.of_below hb) (fun _ _ => id)
theorem OwnY.low {B B' : Nat} {w : World} {v : Value} {l : List α} (h : OwnY Y B w v l) (hb : B' ≤ B) : OwnY Y B' w v l:=by
 obtain ⟨h1,h2⟩:=h;refine ⟨h1,?_⟩
 rcases h2 with h2 | ⟨g,cap,cur,e1,e2,r⟩
 ·exact .inl h2
 ·exact .inr ⟨g,cap,cur,e1,Nat.le_trans hb e2,r⟩
theorem OwnY.grown {B : Nat} {w0 w w' : World} {v : Value} {l : List α} (ho : OwnY Y B w v l) (h0 : Below B w0 w) (hg : w.grownBy w' v.ownBlock) (hB : B ≤ w.heap.size) : Below B w0 w' :=
 h0.grown hg hB (fun k hk => (ho.blk k hk).1)
theorem OwnY.set1 (K : Y.Ok) {B : Nat} {w : World} {g n c : Nat} {l : List α} (h : OwnY Y B w (.slice (some ⟨g,0,none⟩) n c) l) {i : Nat} {x : α} (hx : l[i]? = some x) (x' : α) (j : Nat) (u : Value) (hj : j < Y.k) (hc : Y.cs x' = (Y.cs x).set j u) :
  OwnY Y B (w.setCell ⟨g,i * Y.k + j,none⟩ u) (.slice (some ⟨g,0,none⟩) n c) (l.set i x'):=by
 obtain ⟨a,c',e,_⟩:=h.form
 injection e with e1 e2 e3
 unfold OwnY at *
 rw [← e2] at h;rw [← fl_set1 K hx hj hc,List.length_set,← e2]
 exact (World.ownsRow.stored h (i * Y.k + j) _).1
theorem OwnY.free {B : Nat} {w : World} {g n c : Nat} {l : List α} (h : OwnY Y B w (.slice (some ⟨g,0,none⟩) n c) l) (j : Nat) : w.frozen? ⟨g,j,none⟩ = false:=by
 obtain ⟨a,c',e,_⟩:=h.form
 injection e with e1 e2 e3
 unfold OwnY at h
 rw [← e2] at h
 exact World.ownsRow.frozenAt h j
theorem OwnY.kind {B : Nat} {w : World} {v : Value} {l : List α} (h : OwnY Y B w v l) {g : Nat} (e : v.ownBlock = some g) : ∃ c f,w.heap[g]? = some (.cells c Y.T f):=by
 rcases h.2 with ⟨e1,_⟩ | ⟨g1,_,cur,e1,_,hb,_⟩
 ·rw [e1] at e;cases e
 ·rw [e1] at e;cases e;exact ⟨cur,_,hb⟩
theorem OwnY.apart {β : Type} {Y' : Lay β} {B B' : Nat} {w : World} {v v' : Value} {l : List α} {l' : List β} (h : OwnY Y B w v l) (h' : OwnY Y' B' w v' l') (hT : Y.T ≠ Y'.T) : ∀ g,v.ownBlock = some g → v'.ownBlock ≠ some g:=by
 intro g e e';obtain ⟨c,f,h1⟩:=h.kind e;obtain ⟨c',f',h2⟩:=h'.kind e';rw [h1] at h2
 injection h2 with h3
 injection h3 with _ h4
 exact hT h4
def LieY (Y : Lay α) (w : World) (q o : Nat) (l : List α) : Prop:=∀ i x,l[i]? = some x → ∀ j u,(Y.cs x)[j]? = some u → w.cell? ⟨q,o + i * Y.k + j,none⟩ = some u
theorem LieY.upd {S : Nat → Prop} {w w' : World} {q o : Nat} {l : List α} (h : LieY Y w q o l) (u : Upd S w w') (hq : q < w.heap.size) (hs : ¬ S q) : LieY Y w' q o l:=fun i x hx j v hv => (u.cell (p:=⟨q,_,none⟩) hq hs).trans (h i x hx j v hv)
theorem LieY.flat (K : Y.Ok) {w : World} {q o : Nat} {l : List α} (h : LieY Y w q o l) (j : Nat) (u : Value) (hu : (fl Y l)[j]? = some u) : w.cell? ⟨q,o + j,none⟩ = some u:=by
 have hj:=(List.getElem?_eq_some_iff.1 hu).1;rw [fl_length K] at hj;obtain ⟨x,h1,h2⟩:=fl_inv K l j u hu;have:=h _ _ h1 _ _ h2;rw [Nat.add_assoc,(div_pos_lt K.kp hj).2.2] at this
 exact this
structure SlY (Y : Lay α) (w : World) (a : Option Addr) (n c : Nat) (l : List α) : Prop where
 len : l.length = n
 cap : n ≤ c
 max : c ≤ maxLen
 nil : a = none → n = 0∧c = 0
 at_ : ∀ x,a = some x → l = [] ∨ ∃ q o,x = ⟨q,o,none⟩∧q < w.heap.size∧LieY Y w q o l
theorem SlY.upd {S : Nat → Prop} {w w' : World} {a : Option Addr} {n c : Nat} {l : List α} (h : SlY Y w a n c l) (u : Upd S w w') (hs : ∀ x,a = some x → l ≠ [] → ¬ S x.block) : SlY Y w' a n c l :=
 ⟨h.len,h.cap,h.max,h.nil,fun x hx => by
  rcases h.at_ x hx with e | ⟨q,o,rfl,hq,hl⟩
  ·exact .inl e
  ·by_cases hl0 : l = []
   ·exact .inl hl0
   ·exact .inr ⟨q,o,rfl,Nat.lt_of_lt_of_le hq u.size,hl.upd u hq (hs _ hx hl0)⟩⟩
theorem SlY.later {w w' : World} {a : Option Addr} {n c : Nat} {l : List α} (h : SlY Y w a n c l) (hb : Below w.heap.size w w') : SlY Y w' a n c l:=h.upd (S:=fun _ => False) (Upd.of_below hb) (fun _ _ _ => id)
theorem SlY.bel {w w' : World} {a : Option Addr} {n c : Nat} {l : List α} (h : SlY Y w a n c l) {B : Nat} (hb : Below B w w') (hB : w.heap.size ≤ B) : SlY Y w' a n c l:=h.upd (S:=fun k => B ≤ k) ⟨hb.os,hb.tape,hb.output,hb.size,fun k hk hs => hb.block k (by omega)⟩ (fun x hx hne hs => by
 rcases h.at_ x hx with e | ⟨q,o,rfl,hq,hl⟩
 ·exact hne e
 ·dsimp only at hs;omega)
theorem SlY.place {w : World} {a : Option Addr} {n c : Nat} {l : List α} (h : SlY Y w a n c l) (hne : l ≠ []) : ∃ q o,a = some ⟨q,o,none⟩∧q < w.heap.size∧LieY Y w q o l:=by
 cases ha : a with
 | none =>
  have:=(h.nil ha).1
  exact absurd (List.eq_nil_of_length_eq_zero (h.len.trans this)) hne
 | some x =>
  rcases h.at_ x ha with e | ⟨q,o,rfl,hq,hl⟩
  ·exact absurd e hne
  ·exact ⟨q,o,rfl,hq,hl⟩
theorem OwnY.sl (K : Y.Ok) {B : Nat} {w : World} {v : Value} {l : List α} (h : OwnY Y B w v l) : ∃ a c,v = .slice a l.length c∧SlY Y w a l.length c l∧∀ z,a = some z → ∃ g,z = ⟨g,0,none⟩∧B ≤ g∧g < w.heap.size:=by
 obtain ⟨a,c,rfl,h1,h2,h3,h4⟩:=h.form;refine ⟨a,c,rfl,⟨rfl,h1,h2,(fun e => by obtain ⟨e1,e2⟩:=h3 e;rw [e1];exact ⟨rfl,e2⟩),fun x hx => ?_⟩,h4⟩;obtain ⟨g,rfl,_,hg⟩:=h4 x hx;subst hx
 exact .inr ⟨g,0,rfl,hg,fun i y hy j u hu => by rw [Nat.zero_add];exact h.cell K i y hy j u hu⟩
theorem OwnY.sl' (K : Y.Ok) {B : Nat} {w : World} {a : Option Addr} {n c : Nat} {l : List α} (h : OwnY Y B w (.slice a n c) l) : SlY Y w a n c l:=by
 obtain ⟨a',c',e,h1,_⟩:=h.sl K
 injection e with e1 e2 e3
 subst e1 e2 e3
 exact h1
theorem run_appY (K : Y.Ok) (w : World) (ty : TypeId) (B : Nat) (l : List α) (v : Value) (ad : Option Addr) (m c : Nat) (news : List α) (hh : SlY Y w ad m c news) (hown : OwnY Y B w v l) (hB : B ≤ w.heap.size) (hm : l.length + m ≤ maxLen) (hb : (l.length + m) * Y.by_ ≤ 140737488355328) :
  ∃ v' w',(Builtin.append_ #[Y.ST,Y.ST] ty #[v,.slice ad m c]).run Tryz.prog w = .ok v' w'∧OwnY Y B w' v' (l ++ news)∧w.grownBy w' v.ownBlock∧(v'.ownBlock = v.ownBlock ∨ ∃ k,v'.ownBlock = some k∧w.heap.size ≤ k):=by
 obtain ⟨zv,hinfo,hzc⟩:=K.info;obtain ⟨i0,hi,hz0,hz1,hz2⟩:=info_parts hinfo
 have hzs : zv.cells.size = Y.k:=by rw [hzc,List.size_toArray,K.len]
 cases ad with
 | none =>
  obtain ⟨rfl,rfl⟩:=hh.nil rfl;obtain rfl : news = []:=List.eq_nil_of_length_eq_zero hh.len;refine ⟨v,w,?_,by rw [List.append_nil];exact hown,World.grownBy.refl _ _,.inl rfl⟩
  exact run_append_owned_none (P:=Tryz.prog) (w:=w) B Y.ST ty Y.T i0 Y.k K.und hi v l.length (fl Y l) hown
 | some y =>
  have hnews : ∀ j u,(fl Y news)[j]? = some u → w.cell? (y.add j) = some u:=fun j u hu => by
   rcases hh.at_ y rfl with e | ⟨q,o,rfl,_,hl⟩
   ·subst e;cases hu
   ·rw [Addr.add_lit];exact hl.flat K j u hu
  have hlen : (fl Y news).length = m * Y.k:=by rw [fl_length K,hh.len]
  obtain ⟨v',w',hr,h2,h3,h4⟩:=run_append_own (P:=Tryz.prog) w B Y.ST ty Y.T i0 zv Y.k Y.by_ K.und hi hz0 hz1 hz2 hzs K.kp v l.length (fl Y l) hown y m c (fl Y news) hlen hnews (fl_one K news) hm hb hB;refine ⟨v',w',hr,?_,h3,?_⟩
  ·unfold OwnY
   rw [fl_append,List.length_append,hh.len]
   exact h2
  ·rcases hown.2 with ⟨rfl,hn⟩ | ⟨g,cap,cur,rfl,hbg,hg,hnc,hcm,hcs,htake⟩
   ·have hL : l = []:=List.eq_nil_of_length_eq_zero hn
    subst hL;obtain ⟨v2,w2,hr2,k2,_⟩:=run_append_own (P:=Tryz.prog) w w.heap.size Y.ST ty Y.T i0 zv Y.k Y.by_ K.und hi hz0 hz1 hz2 hzs K.kp (.slice none 0 0) 0 [] (World.ownsRow_nil w _ Y.T Y.k) y m c (fl Y news) hlen hnews (fl_one K news) hm hb LR;rw [hr] at hr2
    cases hr2
    cases hv : v'.ownBlock with
    | none => exact .inl rfl
    | some k => exact .inr ⟨k,rfl,(World.ownsRow.lt k2 k hv).1⟩
   ·by_cases hroom : l.length + m ≤ cap
    ·left
     have hfit : l.length * i0.size + (fl Y news).length ≤ cur.size:=by rw [hcs,hz1,hlen,← Nat.add_mul];exact Nat.mul_le_mul_right _ hroom
     have hr2:=run_append_room (P:=Tryz.prog) w Y.ST ty Y.T i0 K.und hi g l.length cap cur hg y m c (fl Y news) (by rw [hz1];exact hlen) hnews (fl_one K news) hroom hfit;rw [hr] at hr2
     cases hr2
     rfl
    ·right
     have holds : ∀ j u,(fl Y l)[j]? = some u → w.cell? ((⟨g,0,none⟩ : Addr).add j) = some u:=World.ownsRow.cells hown (g:=g) rfl;have hr2:=run_append_grow (P:=Tryz.prog) w Y.ST ty Y.T i0 zv K.und hi hz0 ⟨g,0,none⟩ l.length cap (fl Y l) (by rw [hz1];exact fl_length K l) holds y m c (fl Y news) (by rw [hz1];exact hlen) hnews (by omega) (by unfold maxLen at hm;omega) (growslice_fits (by omega) (by rw [hz2];exact hb));rw [hr] at hr2
     cases hr2
     exact ⟨_,rfl,LR⟩
theorem appY (K : Y.Ok) (w : World) {ops : Array Oper} {rest : List Oper} {o : Oper} {a : Act} {Q : Exit → Act → World → Prop} (hgd : o.guard = none) (s x : Operand)
  (ho : o.op = .call { callee:=.builtin .append,args:=#[s,x],argTypes:=#[Y.ST,Y.ST] }) (B : Nat) (l : List α) (v : Value) (hs : a.eval s = v)
  (ad : Option Addr) (m c : Nat) (hx : a.eval x = .slice ad m c) (news : List α) (hh : SlY Y w ad m c news) (hown : OwnY Y B w v l) (hB : B ≤ w.heap.size) (hm : l.length + m ≤ maxLen) (hb : (l.length + m) * Y.by_ ≤ 140737488355328)
  (hk : ∀ v' w',OwnY Y B w' v' (l ++ news) → w.grownBy w' v.ownBlock → (v'.ownBlock = v.ownBlock ∨ ∃ k,v'.ownBlock = some k∧w.heap.size ≤ k) → wpList Tryz.prog ops Q rest (a.put o.dst v') w') : wpList Tryz.prog ops Q (o :: rest) a w:=by
 refine wpList_plain hgd fun K' hK' => ?_
 obtain ⟨v',w',hr,h2,h3,h4⟩:=run_appY K w o.type B l v ad m c news hh hown hB hm hb
 unfold Oper.wp execOp
 simp only [ho,resolve,invoke,builtin,Sem.run_bind,Sem.run_pure,Result.andThen_ok,LA,LB,LC,hs,hx,hr]
 exact hK' _ _ (hk v' w' h2 h3 h4)
theorem madeY (K : Y.Ok) {zc : Array Value} (hzc : zc = (Y.cs Y.z).toArray) (n : Nat) : (madeCells zc (n * Y.k)).toList = fl Y (List.replicate n Y.z):=by
 subst hzc
 apply List.ext_getElem?
 intro j
 by_cases hj : j < n * Y.k
 ·obtain ⟨h1,h2,h3⟩:=div_pos_lt K.kp hj
  have hg : (List.replicate n Y.z)[j / Y.k]? = some Y.z:=List.getElem?_replicate_of_lt h1;have:=fl_get K _ _ _ hg _ h2;rw [h3] at this;rw [this];have hk:=K.len Y.z
  simp [madeCells,hj,hk]
  rw [List.getElem?_eq_getElem (by rw [hk];exact h2)]
  simp [hk,h2]
 ·rw [List.getElem?_eq_none (by simp [madeCells];omega),List.getElem?_eq_none (by rw [fl_length K];simp;omega)]
theorem room_int {a n b : Nat} (e : a = b) (hb : n * b ≤ 140737488355328) : (a : Int) * (n : Int) ≤ 281474976710656:=by
 subst e
 have h : ((n * a : Nat) : Int) ≤ 140737488355328:=by omega
 rw [Int.natCast_mul,Int.mul_comm] at h
 omega
end Go.Proofs.YtpcgnjpodnebpaaGreatDoor
namespace Go.Proofs.YtpcgnjpodnebpaaGreatDoor
open Go.RowKit Go.Maps
open Classical
end Go.Proofs.YtpcgnjpodnebpaaGreatDoor
namespace Go.Proofs.YtpcgnjpodnebpaaGreatDoor
open Go.RowKit Go.Maps
open Classical
variable {α : Type} {Y : Lay α}
theorem fl_splice (K : Y.Ok) {l : List α} {i j : Nat} {e e' : α} (he : l[i]? = some e) {xs : List Value} (hj : j + xs.length ≤ Y.k) (hc : Y.cs e' = (Y.cs e).take j ++ xs ++ (Y.cs e).drop (j + xs.length)) :
  fl Y (l.set i e') = (fl Y l).take (i * Y.k + j) ++ xs ++ (fl Y l).drop (i * Y.k + j + xs.length):=by
 have hi:=(List.getElem?_eq_some_iff.1 he).1;have hge:=(List.getElem?_eq_some_iff.1 he).2
 have hl : l = l.take i ++ e :: l.drop (i + 1):=by
  rw [← hge,← List.drop_eq_getElem_cons hi,List.take_append_drop]
 have h1 : l.set i e' = l.take i ++ e' :: l.drop (i + 1):=List.set_eq_take_append_cons_drop.trans (by rw [if_pos hi])
 have h2 : fl Y l = fl Y (l.take i) ++ (Y.cs e ++ fl Y (l.drop (i + 1))):=by
  conv => lhs;rw [hl,fl_append,fl]
 have hA : (fl Y (l.take i)).length = i * Y.k:=by rw [fl_length K,List.length_take,Nat.min_eq_left (by omega)]
 have hC : (Y.cs e).length = Y.k:=K.len e;rw [h1,fl_append,fl,h2,hc];rw [List.take_append,List.take_of_length_le (l:=fl Y (l.take i)) (by omega),hA,Nat.add_sub_cancel_left,List.take_append_of_le_length (by omega)];rw [Nat.add_assoc,List.drop_append,List.drop_of_length_le (l:=fl Y (l.take i)) (by omega),hA,Nat.add_sub_cancel_left,List.nil_append,List.drop_append_of_le_length (by omega)];simp only [List.append_assoc]
theorem splice_take {A xs : List Value} {p m : Nat} (h : p + xs.length ≤ m) : (A.take p ++ xs ++ A.drop (p + xs.length)).take m = (A.take m).take p ++ xs ++ (A.take m).drop (p + xs.length):=by
 apply List.ext_getElem?
 intro q
 by_cases h0 : q < m
 ·rw [List.getElem?_take,if_pos h0]
  by_cases hA : p ≤ A.length
  ·have l1 : (A.take p).length = p:=by rw [List.length_take];omega
   have l2 : ((A.take m).take p).length = p:=by rw [List.length_take,List.length_take];omega
   by_cases h1 : q < p
   ·rw [List.append_assoc,List.append_assoc,List.getElem?_append_left (by omega),List.getElem?_append_left (by omega),List.take_take,Nat.min_eq_left (by omega)]
   ·by_cases h2 : q < p + xs.length
    ·have t : ∀ (P D : List Value),P.length = p → (P ++ xs ++ D)[q]? = xs[q - p]?:=fun P D hP => by
      rw [List.append_assoc,List.getElem?_append_right (by omega),hP,List.getElem?_append_left (by omega)]
     rw [t _ _ l1,t _ _ l2]
    ·have t : ∀ (P D : List Value),P.length = p → (P ++ xs ++ D)[q]? = D[q - p - xs.length]?:=fun P D hP => by
      rw [List.append_assoc,List.getElem?_append_right (by omega),hP,List.getElem?_append_right (by omega)]
     rw [t _ _ l1,t _ _ l2,List.getElem?_drop,List.getElem?_drop,List.getElem?_take,if_pos (by omega)]
  ·have e1 : A.take p = A:=List.take_of_length_le (by omega)
   have e2 : A.take m = A:=List.take_of_length_le (by omega);rw [e1,e2,e1]
 ·rw [List.getElem?_take,if_neg h0]
  symm
  apply List.getElem?_eq_none
  simp only [List.length_append,List.length_take,List.length_drop]
  omega
theorem storeY (K : Y.Ok) (w : World) {ops : Array Oper} {rest : List Oper} {o : Oper} {a : Act} {Q : Exit → Act → World → Prop} (hgd : o.guard = none) (ty : TypeId) (x y : Operand) (ho : o.op = .store ty x y)
  (B g n c : Nat) (l : List α) (i j : Nat) (e e' : α) (v : Value) (hx : a.eval x = .pointer (some ⟨g,i * Y.k + j,none⟩)) (hy : a.eval y = v) (he : l[i]? = some e) (hi : (Tryz.prog.info? ty).map (·.size) = some v.cells.size)
  (hj : j + v.cells.size ≤ Y.k) (hc : Y.cs e' = (Y.cs e).take j ++ v.cells.toList ++ (Y.cs e).drop (j + v.cells.toList.length)) (hown : OwnY Y B w (.slice (some ⟨g,0,none⟩) n c) l)
  (hk : ∀ w',OwnY Y B w' (.slice (some ⟨g,0,none⟩) n c) (l.set i e') → Upd (fun b => b = g) w w' → w'.heap.size = w.heap.size → wpList Tryz.prog ops Q rest (a.put o.dst undef) w') : wpList Tryz.prog ops Q (o :: rest) a w:=by
 refine wpList_plain hgd fun K' hK' => ?_
 have hlt:=(List.getElem?_eq_some_iff.1 he).1
 rcases hown with ⟨h0,h1 | ⟨g1,cap,cur,e1,e2,e3,e4,e5,e6,e7⟩⟩
 ·have:=h1.1;cases this
 ·injection e1 with q1 q2 q3
  injection q1 with q1
  cases q1
  subst q3
  have hsz : l.length * Y.k ≤ cur.size:=by rw [e6];exact Nat.mul_le_mul_right _ e4
  have hlen : v.cells.toList.length = v.cells.size:=by simp
  have hfit : i * Y.k + j + v.cells.toList.length ≤ l.length * Y.k:=by
   have : (i + 1) * Y.k ≤ l.length * Y.k:=Nat.mul_le_mul_right _ hlt;rw [Nat.add_mul] at this
   omega
  have hrun:=run_storeCells_at (P:=Tryz.prog) g (i * Y.k + j) Y.T v.cells.toList 0 cur w e3 (by omega) (fun u hu => K.one e' u (by rw [hc];exact List.mem_append_left _ (List.mem_append_right _ hu)));rw [Nat.add_zero] at hrun
  have hst : (Instr.storeAt ty (.pointer (some ⟨g,i * Y.k + j,none⟩)) v).run Tryz.prog w = .ok () (w.setRow g (cur.toList.take (i * Y.k + j) ++ v.cells.toList ++ cur.toList.drop (i * Y.k + j + v.cells.toList.length)).toArray):=by
   cases hq : Tryz.prog.info? ty with
   | none => rw [hq] at hi;cases hi
   | some t =>
    have hs : v.cells.size = t.size:=by simp [hq] at hi;omega
    simp [Instr.storeAt,Instr.sureAddr,storeVar,sizeOf,typeInfo,hq,hs]
    rw [← hs]
    simpa using hrun
  unfold Oper.wp execOp
  simp only [ho,hx,hy,Sem.run_bind,Sem.run_pure,Result.andThen_ok,hst];refine hK' _ _ (hk _ ?_ ⟨rfl,rfl,rfl,by simp,fun b hb hs => setRow_other w g b _ hs⟩ (by simp));refine ⟨by rw [fl_length K],.inr ⟨g,c,_,?_,e2,setRow_heap w g cur _ Y.T (0,0) e3,?_,e5,?_,?_⟩⟩
  ·rw [List.length_set,← q2]
  ·rw [List.length_set];exact e4
  ·rw [List.size_toArray,← e6]
   simp only [List.length_append,List.length_take,List.length_drop,Array.length_toList]
   omega
  ·rw [List.length_set,fl_splice K he (by rw [hlen];exact hj) hc,← e7]
   exact splice_take hfit
end Go.Proofs.YtpcgnjpodnebpaaGreatDoor
namespace Go.Proofs.YtpcgnjpodnebpaaGreatDoor
open Go.RowKit Go.Maps
open Classical
structure SV (α : Type) where
 a : Option Addr
 c : Nat
 D : List α
def yS (α : Type) (T ST : TypeId) : Lay (SV α):=⟨T,ST,1,24,fun x => [.slice x.a x.D.length x.c],⟨none,0,[]⟩⟩
theorem setc_ne {w : World} {b i j : Nat} {u x : Value} (h : w.cell? ⟨b,i,none⟩ = some x) (hne : i ≠ j) : (w.setCell ⟨b,j,none⟩ u).cell? ⟨b,i,none⟩ = some x:=by
 have hn : j ≠ i:=fun e => hne e.symm
 go_simp
theorem setc_eq {w : World} {b i : Nat} {u x : Value} (h : w.cell? ⟨b,i,none⟩ = some x) : (w.setCell ⟨b,i,none⟩ u).cell? ⟨b,i,none⟩ = some u:=by
 go_simp
theorem setf {w : World} {b i j : Nat} {u : Value} (h : w.frozen? ⟨b,i,none⟩ = false) : (w.setCell ⟨b,j,none⟩ u).frozen? ⟨b,i,none⟩ = false:=by
 go_simp
theorem gcell {w w' : World} {row : Option Nat} (h : w.grownBy w' row) {b i : Nat} {x : Value} (hc : w.cell? ⟨b,i,none⟩ = some x) (hne : row ≠ some b) : w'.cell? ⟨b,i,none⟩ = some x :=
 h.cell hc (fun e => hne e.symm)
theorem gupd {w w' : World} {row : Option Nat} (h : w.grownBy w' row) {S : Nat → Prop} (hs : ∀ k,row = some k → S k) : Upd S w w' :=
 ⟨h.os,h.tape,h.output,h.size,fun k hk hn => h.block k hk (fun e => hn (hs k e.symm))⟩
variable {α β : Type} {Y : Lay α} {Z : Lay β}
theorem OwnY.grownZ {B B' : Nat} {w w' : World} {v v2 : Value} {D : List α} {L : List β} (h : OwnY Y B w v D) (hv : OwnY Z B' w v2 L) (hT : Y.T ≠ Z.T) (hg : w.grownBy w' v2.ownBlock) : OwnY Y B w' v D:=by
 refine World.ownsRow.kept h hg ?_
 cases e : v.ownBlock with
 | none => exact .inl rfl
 | some k => exact .inr (fun e' => h.apart hv hT k e e'.symm)
variable {Z : Lay (SV α)} {p : Nat} {E : Nat → Value}
end Go.Proofs.YtpcgnjpodnebpaaGreatDoor
namespace Go.Proofs.YtpcgnjpodnebpaaGreatDoor
open Go.RowKit Go.Maps
open Classical
structure En where
 c : Int
 n : Int
 o : Opn
def En.cs (e : En) : List Value:=[.int .i64 e.c,.int .i64 e.n,.int .i64 e.o.k,.int .i64 e.o.s,.string e.o.v]
structure En.fits (e : En) : Prop where
 cw : (Lit.int .i64 e.c).wf = true
 nw : (Lit.int .i64 e.n).wf = true
 ow : e.o.fits
def yE : Lay En:=⟨47,25,5,48,En.cs,⟨0,0,⟨0,0,ByteArray.empty⟩⟩⟩
theorem kE : yE.Ok:=⟨by decide,fun x => rfl,fun x u h => by
  simp [yE,En.cs] at h
  rcases h with rfl | rfl | rfl | rfl | rfl <;> rfl,Tryz.underlying25,⟨.agg #[.int .i64 0,.int .i64 0,.int .i64 0,.int .i64 0,.string ByteArray.empty],by kernel_rfl,rfl⟩⟩
theorem SlY.en {w : World} {a : Option Addr} {n c : Nat} {L : List En} (h : SlY yE w a n c L) {j : Nat} {e : En} (he : L[j]? = some e) : ∃ q o,a = some ⟨q,o,none⟩∧q < w.heap.size∧w.cell? ⟨q,o + j * 5,none⟩ = some (.int .i64 e.c)∧w.cell? ⟨q,o + j * 5 + 1,none⟩ = some (.int .i64 e.n)∧w.cell? ⟨q,o + j * 5 + 2,none⟩ = some (.int .i64 e.o.k)∧w.cell? ⟨q,o + j * 5 + 3,none⟩ = some (.int .i64 e.o.s)∧w.cell? ⟨q,o + j * 5 + 4,none⟩ = some (.string e.o.v):=by
 obtain ⟨q,o,ea,hq,hl⟩:=h.place (by rintro rfl;simp at he)
 exact ⟨q,o,ea,hq,hl j e he 0 _ rfl,hl j e he 1 _ rfl,hl j e he 2 _ rfl,hl j e he 3 _ rfl,hl j e he 4 _ rfl⟩
theorem sl_box {α : Type} {Y : Lay α} (w : World) (x : α) (T : TypeId) : SlY Y (w.alloc (.cells (Y.cs x).toArray T)) (some ⟨w.heap.size,0,none⟩) 1 1 [x] :=
 ⟨rfl,LR,by unfold maxLen;omega,(fun e => by cases e),fun y hy => by
  cases hy
  refine .inr ⟨w.heap.size,0,rfl,by simp,fun i z hz j u hu => ?_⟩
  match i,hz with
  | 0,hz =>
   simp at hz
   subst hz;rw [Nat.zero_mul,Nat.zero_add];rw [World.cell?_alloc_at _ _ _ _ rfl,List.getElem?_toArray]
   exact hu
  | i + 1,hz => simp at hz⟩
theorem own_box {α : Type} {Y : Lay α} (K : Y.Ok) (B : Nat) (w : World) (x : α) (hB : B ≤ w.heap.size) : OwnY Y B (w.alloc (.cells (Y.cs x).toArray Y.T)) (.slice (some ⟨w.heap.size,0,none⟩) 1 1) [x]:=by
 have h:=World.ownsRow_lit (e:=Y.T) (size:=Y.k) w (Y.cs x).toArray 1 hB (by unfold maxLen;omega) (by rw [List.size_toArray,K.len,Nat.one_mul])
 have e : fl Y [x] = (Y.cs x).toArray.toList:=by simp [fl]
 unfold OwnY
 rw [e]
 exact h
theorem SlY.drewN {α : Type} {Y : Lay α} {w : World} {a : Option Addr} {n c : Nat} {l : List α} (h : SlY Y w a n c l) (k : Nat) : SlY Y (w.drewN k) a n c l:=h.later (belN (Below.refl _ w) k)
theorem sl_lit {α : Type} {Y : Lay α} (K : Y.Ok) (w : World) (l : List α) (T : TypeId) (hm : l.length ≤ maxLen) : SlY Y (w.alloc (.cells (fl Y l).toArray T)) (some ⟨w.heap.size,0,none⟩) l.length l.length l :=
 ⟨rfl,LR,hm,(fun e => by cases e),fun y hy => by
  cases hy
  refine .inr ⟨w.heap.size,0,rfl,by simp,fun i z hz j u hu => ?_⟩;rw [Nat.zero_add,World.cell?_alloc_at _ _ _ _ rfl,List.getElem?_toArray,fl_get K l i z hz j (by have:=(List.getElem?_eq_some_iff.1 hu).1;rw [K.len] at this;exact this)]
  exact hu⟩
def zE : Lay (SV En):=yS En 25 217
def mkE : En:=⟨-77,-88,⟨0,0,ByteArray.empty⟩⟩
theorem copyent_any (a : Option Addr) (n c : Nat) (D : List En) (w : World) (h : SlY yE w a n c D) (hb : n * 48 ≤ 140737488355328) :
  Calls Tryz.prog 23 #[.slice a n c] w fun e w' => ∃ v',e = .returned v'∧OwnY yE w.heap.size w' v' D∧Below w.heap.size w w':=by
 have H:=hide h;clear h
 go_enter Tryz.func23,Tryz.ntmps23
 go_wp2_with (at_builtin;go_must (refine appY kE _ rfl (.const (.slice none 0 0)) (.tmp 3) rfl w.heap.size [] _ rfl a n c rfl D H.out (OwnY.nil _ _ _) LR (by unfold maxLen;simp;omega) (by show (0 + n) * 48 ≤ _;omega) ?_))
 intro v' w' h1 h3 _;have hb : Below w.heap.size w w':=BR.grown h3 LR (fun k hk => by cases hk)
 go_wp2
 go_ret
 exact ⟨v',rfl,h1,hb⟩
def yD : Lay (Int × Int):=⟨52,27,2,16,fun d => [.int .u64 d.1,.int .u64 d.2],(0,0)⟩
theorem kD : yD.Ok:=⟨by decide,fun x => rfl,fun x u h => by
  simp [yD] at h
  rcases h with rfl | rfl <;> rfl,Tryz.underlying27,⟨.agg #[.int .u64 0,.int .u64 0],by kernel_rfl,rfl⟩⟩
def zD : Lay (SV (Int × Int)):=yS (Int × Int) 27 108
def mkD : Int × Int:=(77,88)
theorem hzz : zD.T ≠ zE.T:=by decide
theorem SlY.dw {w : World} {a : Option Addr} {n c : Nat} {L : List (Int × Int)} (h : SlY yD w a n c L) {j : Nat} {e : Int × Int} (he : L[j]? = some e) : ∃ q o,a = some ⟨q,o,none⟩∧q < w.heap.size∧w.cell? ⟨q,o + j * 2,none⟩ = some (.int .u64 e.1)∧w.cell? ⟨q,o + j * 2 + 1,none⟩ = some (.int .u64 e.2):=by
 obtain ⟨q,o,ea,hq,hl⟩:=h.place (by rintro rfl;simp at he)
 exact ⟨q,o,ea,hq,hl j e he 0 _ rfl,hl j e he 1 _ rfl⟩
theorem copyvecY (a : Option Addr) (n c : Nat) (D : List (Int × Int)) (w : World) (h : SlY yD w a n c D) (hb : n * 16 ≤ 140737488355328) :
  Calls Tryz.prog 24 #[.slice a n c] w fun e w' => ∃ v',e = .returned v'∧OwnY yD w.heap.size w' v' D∧Below w.heap.size w w':=by
 have H:=hide h;have hmx:=h.max;have hcp:=h.cap;clear h
 go_enter Tryz.func24,Tryz.ntmps24
 go_wp2_with (at_builtin;go_must (refine appY kD _ rfl (.const (.slice none 0 0)) (.tmp 3) rfl w.heap.size [] _ rfl a n c rfl D H.out (OwnY.nil _ _ _) LR (by simp;omega) (by show (0 + n) * 16 ≤ _;omega) ?_))
 intro v' w' h1 h3 _;have hb : Below w.heap.size w w':=BR.grown h3 LR (fun k hk => by cases hk)
 go_wp2
 go_ret
 exact ⟨v',rfl,h1,hb⟩
theorem take_snoc {α : Type} {l : List α} {k : Nat} {x : α} (h : l[k]? = some x) : l.take (k + 1) = l.take k ++ [x]:=by
 rw [List.take_add_one,h];rfl
theorem ne_of_at {α : Type} {A B : List α} {k : Nat} {x y : α} (h1 : A[k]? = some x) (h2 : B[k]? = some y) (h : x ≠ y) : A ≠ B:=by
 rintro rfl;rw [h1] at h2
 exact h (Option.some.inj h2)
theorem take_all {α : Type} {A B : List α} {k : Nat} (h1 : A.length = k) (h2 : B.length = k) (h : A.take k = B.take k) : A = B:=by
 rw [List.take_of_length_le (by omega),List.take_of_length_le (by omega)] at h
 exact h
theorem take_step {α : Type} {A B : List α} {k : Nat} {x : α} (h1 : A[k]? = some x) (h2 : B[k]? = some x) (h : A.take k = B.take k) : A.take (k + 1) = B.take (k + 1):=by
 rw [take_snoc h1,take_snoc h2,h]
theorem sameentsB (A B : List En) (a1 a2 : Option Addr) (n1 n2 c1 c2 : Nat) (w : World) (h1 : SlY yE w a1 n1 c1 A) (h2 : SlY yE w a2 n2 c2 B) :
  Calls Tryz.prog 13 #[.slice a1 n1 c1,.slice a2 n2 c2] w fun e w' => e = .returned (.bool (decide (A = B)))∧∃ k,w' = w.drewN k:=by
 have m1:=h1.max;have m2:=h2.max;have k1:=h1.cap;have k2:=h2.cap
 unfold maxLen at m1 m2
 have L1:=hide h1.len;have L2:=hide h2.len;have H1:=hide h1;have H2:=hide h2;clear h1 h2
 by_cases hl : n1 = n2
 ·subst hl
  go_enter Tryz.func13,Tryz.ntmps13
  go_wp2
  go_loopw [5] (fun i wr => ∃ (k j : Nat),i = .int .i64 (k : Int)∧k ≤ n1∧A.take k = B.take k∧wr = w.drewN j) (fun i _ => n1 - (intOf i).toNat)
  case atStart => exact ⟨0,0,rfl,Nat.zero_le _,rfl,rfl⟩
  case round =>
   obtain ⟨k,j,rfl,hk,hsame,rfl⟩:=hrel;have HS:=hide hsame;clear hsame
   by_cases hlt : k < n1
   ·obtain ⟨d1,hd1⟩ : ∃ d,A[k]? = some d:=⟨_,List.getElem?_eq_getElem (by rw [L1.out];exact hlt)⟩
    obtain ⟨d2,hd2⟩ : ∃ d,B[k]? = some d:=⟨_,List.getElem?_eq_getElem (by rw [L2.out];exact hlt)⟩
    have NS:=hide (ne_of_at hd1 hd2);have HN:=hide (fun (e : d1 = d2) => take_step hd1 (by rw [e];exact hd2) HS.out);obtain ⟨q1,o1,rfl,_,e0,e1,e2,e3,e4⟩:=H1.out.en hd1;obtain ⟨q2,o2,rfl,_,f0,f1,f2,f3,f4⟩:=H2.out.en hd2;obtain ⟨C,N,⟨ok,os,ov⟩⟩:=d1;obtain ⟨C',N',⟨ok',os',ov'⟩⟩:=d2
    dsimp only at e0 e1 e2 e3 e4 f0 f1 f2 f3 f4
    clear H1 H2 HS hd1 hd2
    by_cases ff : (⟨C,N,⟨ok,os,ov⟩⟩ : En) = ⟨C',N',⟨ok',os',ov'⟩⟩
    ·have HS2:=hide (HN.out ff)
     cases ff
     clear HN NS
     go_wp2
     go_quiet (fail)
     go_wp2
     go_round
     case rel => exact ⟨k + 1,_,by go_num,by omega,HS2.out,rfl⟩
     case measure => simp [intOf];omega
    ·have NE:=hide (decide_eq_false (NS.out ff))
     clear NS HN
     by_cases g_C : C = C'
     ·subst g_C
      by_cases g_N : N = N'
      ·subst g_N
       by_cases g_ok : ok = ok'
       ·subst g_ok
        by_cases g_os : os = os'
        ·subst g_os
         by_cases g_ov : ov = ov'
         ·subst g_ov
          exact absurd rfl ff
         ·have g2 : ¬ ov.toList = ov'.toList:=fun e => g_ov ((bytes_inj _ _).1 e)
          go_wp2
          go_quiet (fail)
          go_wp2
          go_ret
          exact ⟨by rw [NE.out];rfl,j + nq,by simp⟩
        ·go_wp2
         go_quiet (fail)
         go_wp2
         go_ret
         exact ⟨by rw [NE.out];rfl,j + nq,by simp⟩
       ·go_wp2
        go_quiet (fail)
        go_wp2
        go_ret
        exact ⟨by rw [NE.out];rfl,j + nq,by simp⟩
      ·go_wp2
       go_quiet (fail)
       go_wp2
       go_ret
       exact ⟨by rw [NE.out];rfl,j + nq,by simp⟩
     ·go_wp2
      go_quiet (fail)
      go_wp2
      go_ret
      exact ⟨by rw [NE.out];rfl,j + nq,by simp⟩
   ·obtain rfl : k = n1:=by omega
    have HE:=hide (decide_eq_true (take_all L1.out L2.out HS.out));clear HS H1 H2
    go_wp2
    go_ret
    exact ⟨by rw [HE.out];rfl,_,rfl⟩
 ·have hl' : ¬ (n1 : Int) = (n2 : Int):=by omega
  have HE : Hid (decide (A = B) = false):=decide_eq_false (by rintro rfl;exact hl (L1.out.symm.trans L2.out));clear H1 H2
  go_enter Tryz.func13,Tryz.ntmps13
  go_wp2
  go_ret
  exact ⟨by rw [HE.out];rfl,0,rfl⟩
theorem samevecB (A B : List (Int × Int)) (a1 a2 : Option Addr) (n1 n2 c1 c2 : Nat) (w : World) (h1 : SlY yD w a1 n1 c1 A) (h2 : SlY yD w a2 n2 c2 B) :
  Calls Tryz.prog 34 #[.slice a1 n1 c1,.slice a2 n2 c2] w fun e w' => e = .returned (.bool (decide (A = B)))∧∃ k,w' = w.drewN k:=by
 have m1:=h1.max;have m2:=h2.max;have k1:=h1.cap;have k2:=h2.cap
 unfold maxLen at m1 m2
 have L1:=hide h1.len;have L2:=hide h2.len;have H1:=hide h1;have H2:=hide h2;clear h1 h2
 by_cases hl : n1 = n2
 ·subst hl
  go_enter Tryz.func34,Tryz.ntmps34
  go_wp2
  go_loopw [5] (fun i wr => ∃ (k j : Nat),i = .int .i64 (k : Int)∧k ≤ n1∧A.take k = B.take k∧wr = w.drewN j) (fun i _ => n1 - (intOf i).toNat)
  case atStart => exact ⟨0,0,rfl,Nat.zero_le _,rfl,rfl⟩
  case round =>
   obtain ⟨k,j,rfl,hk,hsame,rfl⟩:=hrel;have HS:=hide hsame;clear hsame
   by_cases hlt : k < n1
   ·obtain ⟨d1,hd1⟩ : ∃ d,A[k]? = some d:=⟨_,List.getElem?_eq_getElem (by rw [L1.out];exact hlt)⟩
    obtain ⟨d2,hd2⟩ : ∃ d,B[k]? = some d:=⟨_,List.getElem?_eq_getElem (by rw [L2.out];exact hlt)⟩
    have NS:=hide (ne_of_at hd1 hd2);have HN:=hide (fun (e : d1 = d2) => take_step hd1 (by rw [e];exact hd2) HS.out);obtain ⟨q1,o1,rfl,_,e0,e1⟩:=H1.out.dw hd1;obtain ⟨q2,o2,rfl,_,f0,f1⟩:=H2.out.dw hd2;obtain ⟨X,Y⟩:=d1;obtain ⟨X',Y'⟩:=d2
    dsimp only at e0 e1 f0 f1
    clear H1 H2 HS hd1 hd2
    by_cases ff : (X,Y) = (X',Y')
    ·have HS2:=hide (HN.out ff)
     cases ff
     clear HN NS
     go_wp2
     go_quiet (fail)
     go_wp2
     go_round
     case rel => exact ⟨k + 1,_,by go_num,by omega,HS2.out,rfl⟩
     case measure => simp [intOf];omega
    ·have NE:=hide (decide_eq_false (NS.out ff))
     clear NS HN
     by_cases g_X : X = X'
     ·subst g_X
      by_cases g_Y : Y = Y'
      ·subst g_Y
       exact absurd rfl ff
      ·go_wp2
       go_quiet (fail)
       go_wp2
       go_ret
       exact ⟨by rw [NE.out];rfl,j + nq,by simp⟩
     ·go_wp2
      go_quiet (fail)
      go_wp2
      go_ret
      exact ⟨by rw [NE.out];rfl,j + nq,by simp⟩
   ·obtain rfl : k = n1:=by omega
    have HE:=hide (decide_eq_true (take_all L1.out L2.out HS.out));clear HS H1 H2
    go_wp2
    go_ret
    exact ⟨by rw [HE.out];rfl,_,rfl⟩
 ·have hl' : ¬ (n1 : Int) = (n2 : Int):=by omega
  have HE : Hid (decide (A = B) = false):=decide_eq_false (by rintro rfl;exact hl (L1.out.symm.trans L2.out));clear H1 H2
  go_enter Tryz.func34,Tryz.ntmps34
  go_wp2
  go_ret
  exact ⟨by rw [HE.out];rfl,0,rfl⟩
structure Mg where
 k : Int
 nd : Int
 vw : Int
 e : En
 r : Int × Int × ByteArray
 p : Int
 cm : Int
 ls : Int
 d : Int × Int
def Mg.val (m : Mg) (s t : Value) : Value:=.agg #[.int .i64 m.k,.int .i64 m.nd,.int .i64 m.vw,.int .i64 m.e.c,.int .i64 m.e.n,.int .i64 m.e.o.k,.int .i64 m.e.o.s,.string m.e.o.v,.int .i64 m.r.1,.int .i64 m.r.2.1,.string m.r.2.2,.int .i64 m.p,.int .i64 m.cm,.int .i64 m.ls,.int .u64 m.d.1,.int .u64 m.d.2,s,t]
def Mg.cs (m : Mg) (s t : Value) : List Value:=[.int .i64 m.k,.int .i64 m.nd,.int .i64 m.vw,.int .i64 m.e.c,.int .i64 m.e.n,.int .i64 m.e.o.k,.int .i64 m.e.o.s,.string m.e.o.v,.int .i64 m.r.1,.int .i64 m.r.2.1,.string m.r.2.2,.int .i64 m.p,.int .i64 m.cm,.int .i64 m.ls,.int .u64 m.d.1,.int .u64 m.d.2,s,t]
structure MBox (w : World) (q : Nat) (m : Mg) (s t : Value) : Prop where
 lt : q < w.heap.size
 kind : ∃ c f,w.heap[q]? = some (.cells c 54 f)
 cell : ∀ i x,(m.cs s t)[i]? = some x → w.cell? ⟨q,i,none⟩ = some x
 free : ∀ i,w.frozen? ⟨q,i,none⟩ = false
theorem MBox.upd {S : Nat → Prop} {w w' : World} {q : Nat} {m : Mg} {s t : Value} (h : MBox w q m s t) (u : Upd S w w') (hs : ¬ S q) : MBox w' q m s t:=by
 have hb:=u.block q h.lt hs
 exact ⟨Nat.lt_of_lt_of_le h.lt u.size,by rw [hb];exact h.kind,fun i x hx => (u.cell (p:=⟨q,i,none⟩) h.lt hs).trans (h.cell i x hx),fun i => (u.frozen (p:=⟨q,i,none⟩) h.lt hs).trans (h.free i)⟩
theorem MBox.bel {w w' : World} {q : Nat} {m : Mg} {s t : Value} (h : MBox w q m s t) (hb : Below w.heap.size w w') : MBox w' q m s t:=h.upd (S:=fun _ => False) (Upd.of_below hb) id
theorem MBox.new (w : World) (m : Mg) (s t : Value) : MBox (w.alloc (.cells (m.cs s t).toArray 54)) w.heap.size m s t:=by
 refine ⟨by simp,?_,fun i x hx => ?_,fun i => by simp⟩
 ·refine ⟨(m.cs s t).toArray,(0,0),?_⟩
  show (w.heap.push _)[w.heap.size]? = _
  rw [Array.getElem?_push_size]
 ·rw [World.cell?_alloc_at _ _ _ _ rfl,List.getElem?_toArray]
  exact hx
theorem MBox.all {w : World} {q : Nat} {m : Mg} {s t : Value} (h : MBox w q m s t) : w.cell? ⟨q,0,none⟩ = some (.int .i64 m.k)∧w.cell? ⟨q,1,none⟩ = some (.int .i64 m.nd)∧w.cell? ⟨q,2,none⟩ = some (.int .i64 m.vw)∧w.cell? ⟨q,3,none⟩ = some (.int .i64 m.e.c)∧w.cell? ⟨q,4,none⟩ = some (.int .i64 m.e.n)∧w.cell? ⟨q,5,none⟩ = some (.int .i64 m.e.o.k)∧w.cell? ⟨q,6,none⟩ = some (.int .i64 m.e.o.s)∧w.cell? ⟨q,7,none⟩ = some (.string m.e.o.v)∧w.cell? ⟨q,8,none⟩ = some (.int .i64 m.r.1)∧w.cell? ⟨q,9,none⟩ = some (.int .i64 m.r.2.1)∧w.cell? ⟨q,10,none⟩ = some (.string m.r.2.2)∧w.cell? ⟨q,11,none⟩ = some (.int .i64 m.p)∧w.cell? ⟨q,12,none⟩ = some (.int .i64 m.cm)∧w.cell? ⟨q,13,none⟩ = some (.int .i64 m.ls)∧w.cell? ⟨q,14,none⟩ = some (.int .u64 m.d.1)∧w.cell? ⟨q,15,none⟩ = some (.int .u64 m.d.2)∧w.cell? ⟨q,16,none⟩ = some (s)∧w.cell? ⟨q,17,none⟩ = some (t) :=
 ⟨h.cell 0 _ rfl,h.cell 1 _ rfl,h.cell 2 _ rfl,h.cell 3 _ rfl,h.cell 4 _ rfl,h.cell 5 _ rfl,h.cell 6 _ rfl,h.cell 7 _ rfl,h.cell 8 _ rfl,h.cell 9 _ rfl,h.cell 10 _ rfl,h.cell 11 _ rfl,h.cell 12 _ rfl,h.cell 13 _ rfl,h.cell 14 _ rfl,h.cell 15 _ rfl,h.cell 16 _ rfl,h.cell 17 _ rfl⟩
def sets (w : World) (b : Nat) : Nat → List Value → World
 | _,[] => w
 | i,v :: r => sets (w.setCell ⟨b,i,none⟩ v) b (i + 1) r
theorem upd_sets {S : Nat → Prop} {b : Nat} {w0 : World} (hb : S b) : ∀ (vs : List Value) (i : Nat) (w : World),Upd S w0 w → Upd S w0 (sets w b i vs)
 | [],_,_,h => h
 | u :: r,i,w,h => upd_sets hb r (i + 1) _ (h.setCell (p:=⟨b,i,none⟩) (.inl hb) u)
theorem size_sets (b : Nat) : ∀ (vs : List Value) (i : Nat) (w : World),(sets w b i vs).heap.size = w.heap.size
 | [],_,_ => rfl
 | u :: r,i,w => (size_sets b r (i + 1) _).trans (by simp [World.setCell])
theorem setf' {w : World} {q b i j : Nat} {u : Value} (h : w.frozen? ⟨q,i,none⟩ = false) : (w.setCell ⟨b,j,none⟩ u).frozen? ⟨q,i,none⟩ = false:=by
 go_simp
theorem sets_free {q b j : Nat} : ∀ (vs : List Value) (i : Nat) (w : World),w.frozen? ⟨q,j,none⟩ = false → (sets w b i vs).frozen? ⟨q,j,none⟩ = false
 | [],_,_,h => h
 | u :: r,i,w,h => sets_free r (i + 1) _ (setf' h)
theorem sets_low {b j : Nat} {x : Value} : ∀ (vs : List Value) (i : Nat) (w : World),j < i → w.cell? ⟨b,j,none⟩ = some x → (sets w b i vs).cell? ⟨b,j,none⟩ = some x
 | [],_,_,_,h => h
 | u :: r,i,w,hj,h => sets_low r (i + 1) _ (by omega) (setc_ne h (by omega))
theorem sets_at {b : Nat} : ∀ (vs : List Value) (i : Nat) (w : World),(∀ k,k < vs.length → ∃ y,w.cell? ⟨b,i + k,none⟩ = some y) → ∀ k x,vs[k]? = some x → (sets w b i vs).cell? ⟨b,i + k,none⟩ = some x
 | [],_,_,_,k,x,hx => by simp at hx
 | u :: r,i,w,h,0,x,hx => by
  simp at hx
  subst hx;obtain ⟨y,hy⟩:=h 0 (by simp)
  exact sets_low r (i + 1) _ (by omega) (setc_eq hy)
 | u :: r,i,w,h,k + 1,x,hx => by
  have:=sets_at r (i + 1) (w.setCell ⟨b,i,none⟩ u) (fun m hm => by
   obtain ⟨y,hy⟩:=h (m + 1) (by simpa using hm);rw [show i + (m + 1) = i + 1 + m by omega] at hy
   exact ⟨y,setc_ne hy (by omega)⟩) k x (by simpa using hx)
  rw [show i + 1 + k = i + (k + 1) by omega] at this
  exact this
theorem setCells_sets (b : Nat) : ∀ (vs : List Value) (i : Nat) (w : World),w.setCells b i vs = sets w b i vs
 | [],_,_ => rfl
 | u :: r,i,w => by rw [World.setCells,sets,setCells_sets b r (i + 1)]
theorem Mg.val_eq (m : Mg) (s t : Value) : m.val s t = .agg (m.cs s t).toArray:=rfl
theorem boxM {ops : Array Oper} {rest : List Oper} {o : Oper} {a : Act} {w : World} {Q : Exit → Act → World → Prop} (hgd : o.guard = none) (x : Operand) (ho : o.op = .box 54 x) (m : Mg) (s t : Value) (hx : a.eval x = m.val s t)
  (hk : wpList Tryz.prog ops Q rest (a.put o.dst (.pointer (some ⟨w.heap.size,0,none⟩))) (w.alloc (.cells (m.cs s t).toArray 54))) : wpList Tryz.prog ops Q (o :: rest) a w:=by
 refine wpList_plain hgd fun K hK => ?_
 unfold Oper.wp execOp
 simp only [ho,hx,Mg.val_eq]
 exact hK _ _ hk
theorem loadM {ops : Array Oper} {rest : List Oper} {o : Oper} {a : Act} {w : World} {Q : Exit → Act → World → Prop} (hgd : o.guard = none) (x : Operand) (ho : o.op = .load 54 x) (q : Nat) (m : Mg) (s t : Value) (hx : a.eval x = .pointer (some ⟨q,0,none⟩)) (h : MBox w q m s t)
  (hk : wpList Tryz.prog ops Q rest (a.put o.dst (m.val s t)) w) : wpList Tryz.prog ops Q (o :: rest) a w :=
 wpList_load_mid hgd 54 x ho q 0 hx (m.cs s t) _ (fun j v hv => by rw [Nat.zero_add];exact h.cell j v hv) Tryz.underlying54 rfl (by kernel_rfl) hk
theorem wl_val {ops : Array Oper} {rest : List Oper} {o : Oper} {a : Act} {w : World} {Q : Exit → Act → World → Prop} {v : Value} (hw : Region.wanted o (yielded ops a.tmps) = true) (h : (execOp a.eval o).run Tryz.prog w = .ok (.value v) w)
  (hk : wpList Tryz.prog ops Q rest (a.put o.dst v) w) : wpList Tryz.prog ops Q (o :: rest) a w :=
 BigFrame.wpList_want hw (fun K hK => by unfold Oper.wp;rw [h,Oper.upon_value];exact hK _ _ hk)
theorem want_none {ops : Array Oper} {o : Oper} {T : Array Value} (h : o.guard = none) : Region.wanted o (yielded ops T) = true:=by simp [Region.wanted,h]
theorem WN {ops : Array Oper} {T : Array Value} {o : Oper} (h : o.guard = none:=by rfl) : Region.wanted o (yielded ops T) = true:=want_none h
theorem getD_of {T : Array Value} {i : Nat} {v : Value} (h : T[i]? = some v) : T.getD i undef = v:=by rw [Array.getD_eq_getD_getElem?,h];rfl
theorem at_set {T : Array Value} {i : Nat} (v : Value) (h : i < T.size) : (T.setIfInBounds i v)[i]? = some v:=by simp [h]
theorem at_set_ne {T : Array Value} {i j : Nat} (v : Value) (h : j ≠ i) : (T.setIfInBounds i v)[j]? = T[j]?:=by rw [Array.getElem?_setIfInBounds_ne (fun e => h e.symm)]
theorem boxMk {ops : Array Oper} {rest : List Oper} {o : Oper} {a : Act} {w : World} {Q : Exit → Act → World → Prop} (hgd : o.guard = none) (x : Operand) (ho : o.op = .box 54 x) (m : Mg) (s t : Value) (hx : a.eval x = m.val s t)
  (hk : ∀ p w',p = w.heap.size → MBox w' p m s t → Below w.heap.size w w' → w'.heap.size = p + 1 → wpList Tryz.prog ops Q rest (a.put o.dst (.pointer (some ⟨p,0,none⟩))) w') : wpList Tryz.prog ops Q (o :: rest) a w :=
 boxM hgd x ho m s t hx (hk _ _ rfl (MBox.new w m s t) (BR.alloc LR _) (by simp))
theorem eqlEn (x y : Operand) (e e' : En) (w : World) : (do eqGuard .eql 47 x y (.agg #[.int .i64 e.c,.int .i64 e.n,.int .i64 e.o.k,.int .i64 e.o.s,.string e.o.v]) (.agg #[.int .i64 e'.c,.int .i64 e'.n,.int .i64 e'.o.k,.int .i64 e'.o.s,.string e'.o.v]);binOp .eql 47 (.agg #[.int .i64 e.c,.int .i64 e.n,.int .i64 e.o.k,.int .i64 e.o.s,.string e.o.v]) (.agg #[.int .i64 e'.c,.int .i64 e'.n,.int .i64 e'.o.k,.int .i64 e'.o.s,.string e'.o.v]) : Sem Value).run Tryz.prog w = .ok (.bool (decide (e = e'))) w:=by
 obtain ⟨a,b,⟨c,d,v⟩⟩:=e;obtain ⟨a',b',⟨c',d',v'⟩⟩:=e'
 go_simp
 by_cases e1 : a = a' <;> by_cases e2 : b = b' <;> by_cases e3 : c = c' <;> by_cases e4 : d = d' <;> by_cases e5 : v = v' <;> simp [e1,e2,e3,e4,e5,bytes_inj]
theorem eqlRs (x y : Operand) (r r' : Int × Int × ByteArray) (w : World) : (do eqGuard .eql 49 x y (.agg #[.int .i64 r.1,.int .i64 r.2.1,.string r.2.2]) (.agg #[.int .i64 r'.1,.int .i64 r'.2.1,.string r'.2.2]);binOp .eql 49 (.agg #[.int .i64 r.1,.int .i64 r.2.1,.string r.2.2]) (.agg #[.int .i64 r'.1,.int .i64 r'.2.1,.string r'.2.2]) : Sem Value).run Tryz.prog w = .ok (.bool (decide (r = r'))) w:=by
 obtain ⟨a,b,v⟩:=r;obtain ⟨a',b',v'⟩:=r'
 go_simp
 by_cases e1 : a = a' <;> by_cases e2 : b = b' <;> by_cases e5 : v = v' <;> simp [e1,e2,e5,bytes_inj]
theorem eqlDr (x y : Operand) (r r' : Int × Int) (w : World) : (do eqGuard .eql 52 x y (.agg #[.int .u64 r.1,.int .u64 r.2]) (.agg #[.int .u64 r'.1,.int .u64 r'.2]);binOp .eql 52 (.agg #[.int .u64 r.1,.int .u64 r.2]) (.agg #[.int .u64 r'.1,.int .u64 r'.2]) : Sem Value).run Tryz.prog w = .ok (.bool (decide (r = r'))) w:=by
 obtain ⟨a,b⟩:=r;obtain ⟨a',b'⟩:=r'
 go_simp
 by_cases e1 : a = a' <;> by_cases e2 : b = b' <;> simp [e1,e2]
theorem MBox.faKind (q : Nat) (w : World) : (Instr.fieldAt 54 (.pointer (some ⟨q,0,none⟩)) 0).run Tryz.prog w = .ok (.pointer (some ⟨q,0,none⟩)) w:=by
 go_simp
theorem MBox.ldKind {w : World} {q : Nat} {m : Mg} {s t : Value} (h : MBox w q m s t) : (Instr.loadAt 43 (.pointer (some ⟨q,0,none⟩))).run Tryz.prog w = .ok (.int .i64 m.k) w:=by
 obtain ⟨x0,x1,x2,x3,x4,x5,x6,x7,x8,x9,x10,x11,x12,x13,x14,x15,x16,x17⟩:=h.all
 go_simp
theorem MBox.faNode (q : Nat) (w : World) : (Instr.fieldAt 54 (.pointer (some ⟨q,0,none⟩)) 1).run Tryz.prog w = .ok (.pointer (some ⟨q,1,none⟩)) w:=by
 go_simp
theorem MBox.ldNode {w : World} {q : Nat} {m : Mg} {s t : Value} (h : MBox w q m s t) : (Instr.loadAt 3 (.pointer (some ⟨q,1,none⟩))).run Tryz.prog w = .ok (.int .i64 m.nd) w:=by
 obtain ⟨x0,x1,x2,x3,x4,x5,x6,x7,x8,x9,x10,x11,x12,x13,x14,x15,x16,x17⟩:=h.all
 go_simp
theorem MBox.faView (q : Nat) (w : World) : (Instr.fieldAt 54 (.pointer (some ⟨q,0,none⟩)) 2).run Tryz.prog w = .ok (.pointer (some ⟨q,2,none⟩)) w:=by
 go_simp
theorem MBox.ldView {w : World} {q : Nat} {m : Mg} {s t : Value} (h : MBox w q m s t) : (Instr.loadAt 3 (.pointer (some ⟨q,2,none⟩))).run Tryz.prog w = .ok (.int .i64 m.vw) w:=by
 obtain ⟨x0,x1,x2,x3,x4,x5,x6,x7,x8,x9,x10,x11,x12,x13,x14,x15,x16,x17⟩:=h.all
 go_simp
theorem MBox.faEntry (q : Nat) (w : World) : (Instr.fieldAt 54 (.pointer (some ⟨q,0,none⟩)) 3).run Tryz.prog w = .ok (.pointer (some ⟨q,3,none⟩)) w:=by
 go_simp
theorem MBox.ldEntry {w : World} {q : Nat} {m : Mg} {s t : Value} (h : MBox w q m s t) : (Instr.loadAt 47 (.pointer (some ⟨q,3,none⟩))).run Tryz.prog w = .ok (.agg #[.int .i64 m.e.c,.int .i64 m.e.n,.int .i64 m.e.o.k,.int .i64 m.e.o.s,.string m.e.o.v]) w:=by
 obtain ⟨x0,x1,x2,x3,x4,x5,x6,x7,x8,x9,x10,x11,x12,x13,x14,x15,x16,x17⟩:=h.all
 go_simp
theorem MBox.faResult (q : Nat) (w : World) : (Instr.fieldAt 54 (.pointer (some ⟨q,0,none⟩)) 4).run Tryz.prog w = .ok (.pointer (some ⟨q,8,none⟩)) w:=by
 go_simp
theorem MBox.ldResult {w : World} {q : Nat} {m : Mg} {s t : Value} (h : MBox w q m s t) : (Instr.loadAt 49 (.pointer (some ⟨q,8,none⟩))).run Tryz.prog w = .ok (.agg #[.int .i64 m.r.1,.int .i64 m.r.2.1,.string m.r.2.2]) w:=by
 obtain ⟨x0,x1,x2,x3,x4,x5,x6,x7,x8,x9,x10,x11,x12,x13,x14,x15,x16,x17⟩:=h.all
 go_simp
theorem MBox.faPlace (q : Nat) (w : World) : (Instr.fieldAt 54 (.pointer (some ⟨q,0,none⟩)) 5).run Tryz.prog w = .ok (.pointer (some ⟨q,11,none⟩)) w:=by
 go_simp
theorem MBox.ldPlace {w : World} {q : Nat} {m : Mg} {s t : Value} (h : MBox w q m s t) : (Instr.loadAt 3 (.pointer (some ⟨q,11,none⟩))).run Tryz.prog w = .ok (.int .i64 m.p) w:=by
 obtain ⟨x0,x1,x2,x3,x4,x5,x6,x7,x8,x9,x10,x11,x12,x13,x14,x15,x16,x17⟩:=h.all
 go_simp
theorem MBox.faCommit (q : Nat) (w : World) : (Instr.fieldAt 54 (.pointer (some ⟨q,0,none⟩)) 6).run Tryz.prog w = .ok (.pointer (some ⟨q,12,none⟩)) w:=by
 go_simp
theorem MBox.ldCommit {w : World} {q : Nat} {m : Mg} {s t : Value} (h : MBox w q m s t) : (Instr.loadAt 3 (.pointer (some ⟨q,12,none⟩))).run Tryz.prog w = .ok (.int .i64 m.cm) w:=by
 obtain ⟨x0,x1,x2,x3,x4,x5,x6,x7,x8,x9,x10,x11,x12,x13,x14,x15,x16,x17⟩:=h.all
 go_simp
theorem MBox.faLast (q : Nat) (w : World) : (Instr.fieldAt 54 (.pointer (some ⟨q,0,none⟩)) 7).run Tryz.prog w = .ok (.pointer (some ⟨q,13,none⟩)) w:=by
 go_simp
theorem MBox.ldLast {w : World} {q : Nat} {m : Mg} {s t : Value} (h : MBox w q m s t) : (Instr.loadAt 3 (.pointer (some ⟨q,13,none⟩))).run Tryz.prog w = .ok (.int .i64 m.ls) w:=by
 obtain ⟨x0,x1,x2,x3,x4,x5,x6,x7,x8,x9,x10,x11,x12,x13,x14,x15,x16,x17⟩:=h.all
 go_simp
theorem MBox.faDraw (q : Nat) (w : World) : (Instr.fieldAt 54 (.pointer (some ⟨q,0,none⟩)) 8).run Tryz.prog w = .ok (.pointer (some ⟨q,14,none⟩)) w:=by
 go_simp
theorem MBox.ldDraw {w : World} {q : Nat} {m : Mg} {s t : Value} (h : MBox w q m s t) : (Instr.loadAt 52 (.pointer (some ⟨q,14,none⟩))).run Tryz.prog w = .ok (.agg #[.int .u64 m.d.1,.int .u64 m.d.2]) w:=by
 obtain ⟨x0,x1,x2,x3,x4,x5,x6,x7,x8,x9,x10,x11,x12,x13,x14,x15,x16,x17⟩:=h.all
 go_simp
theorem MBox.faLog (q : Nat) (w : World) : (Instr.fieldAt 54 (.pointer (some ⟨q,0,none⟩)) 9).run Tryz.prog w = .ok (.pointer (some ⟨q,16,none⟩)) w:=by
 go_simp
theorem MBox.ldLog {w : World} {q : Nat} {m : Mg} {s t : Value} (h : MBox w q m s t) : (Instr.loadAt 25 (.pointer (some ⟨q,16,none⟩))).run Tryz.prog w = .ok (s) w:=by
 obtain ⟨x0,x1,x2,x3,x4,x5,x6,x7,x8,x9,x10,x11,x12,x13,x14,x15,x16,x17⟩:=h.all
 go_simp
theorem MBox.faVector (q : Nat) (w : World) : (Instr.fieldAt 54 (.pointer (some ⟨q,0,none⟩)) 10).run Tryz.prog w = .ok (.pointer (some ⟨q,17,none⟩)) w:=by
 go_simp
theorem MBox.ldVector {w : World} {q : Nat} {m : Mg} {s t : Value} (h : MBox w q m s t) : (Instr.loadAt 27 (.pointer (some ⟨q,17,none⟩))).run Tryz.prog w = .ok (t) w:=by
 obtain ⟨x0,x1,x2,x3,x4,x5,x6,x7,x8,x9,x10,x11,x12,x13,x14,x15,x16,x17⟩:=h.all
 go_simp
def gw (c : Bool) (V : Value) : Value:=cond c V undef
structure VJ (ops : Array Oper) (C : World → Prop) (Q : Act → Prop) (l : List Oper) (a : Act) : Prop where
 out : wpQuiet Tryz.prog ops C Q l a
theorem vq_start {C : World → Prop} {id : Nat} {Q : Exit → Act → World → Prop} {a : Act} {w : World} {l : List Oper} (hm : Tryz.prog.follows .mixedOrders = true) (hB : Region.lexB .any l.toArray = true) (hC : C w.drew)
  (h : VJ l.toArray C (fun a' => ∀ w',C w' → Q .normal a' w') l a) : (Code.region id l.toArray true).wp Tryz.prog Q a w :=
 wp_region_quiet (C:=C) hm hB hC (by simpa using h.out)
theorem vq_gen {ops : Array Oper} {C : World → Prop} {Q : Act → Prop} {l : List Oper} {T0 : Array Value} {df : List Deferred} (P : Array Value → Prop) (h0 : P T0) (hk : ∀ T,P T → VJ ops C Q l ⟨T,df⟩) : VJ ops C Q l ⟨T0,df⟩:=hk T0 h0
theorem vl_gen {ops : Array Oper} {Q : Exit → Act → World → Prop} {l : List Oper} {T0 : Array Value} {df : List Deferred} {w : World} (P : Array Value → Prop) (h0 : P T0) (hk : ∀ T,P T → wpList Tryz.prog ops Q l ⟨T,df⟩ w) : wpList Tryz.prog ops Q l ⟨T0,df⟩ w:=hk T0 h0
theorem vq_nil {ops : Array Oper} {C : World → Prop} {Q : Act → Prop} {a : Act} (h : Q a) : VJ ops C Q [] a:=⟨wpQuiet_nil h⟩
theorem want_g {ops : Array Oper} {o : Oper} {T : Array Value} {g j : Nat} {pol b c : Bool} (h : o.guard = some (g,pol)) (hg : (ops[g]?).bind (·.dst) = some j) (hj : T[j]? = some (gw c (.bool b))) : Region.wanted o (yielded ops T) = (c && (b == pol)):=by
 cases c <;> simp [Region.wanted,h,yielded,hg,hj,gw,undef]
theorem vq {ops : Array Oper} {rest : List Oper} {o : Oper} {T : Array Value} {df : List Deferred} {C : World → Prop} {Q : Act → Prop} {d n : Nat} (c : Bool) (V : Value) (hw : Region.wanted o (yielded ops T) = c) (he : c = true → ∀ v,C v → (execOp (⟨T,df⟩ : Act).eval o).run Tryz.prog v = .ok (.value V) v) (hd : o.dst = some d) (hz : T.size = n) (hn : d < n)
  (hk : ∀ T' : Array Value,T'.size = n → (∀ i,i ≠ d → T'[i]? = T[i]?) → T'[d]? = some (gw c V) → VJ ops C Q rest ⟨T',df⟩) : VJ ops C Q (o :: rest) ⟨T,df⟩:=by
 cases c with
 | false =>
  refine ⟨BigFrame.wpQuiet_skip hw ?_⟩;rw [hd]
  exact (hk (T.setIfInBounds d undef) (by simp [hz]) (fun i hi => at_set_ne _ hi) (at_set _ (by omega))).out
 | true =>
  refine ⟨BigFrame.wpQuiet_want hw (fun K hK => ⟨V,fun v hv => by unfold Oper.quietAt;rw [he rfl v hv];exact ⟨rfl,rfl⟩,hK _ ?_⟩)⟩;rw [hd]
  exact (hk (T.setIfInBounds d V) (by simp [hz]) (fun i hi => at_set_ne _ hi) (at_set _ (by omega))).out
theorem vl {ops : Array Oper} {rest : List Oper} {o : Oper} {T : Array Value} {df : List Deferred} {w : World} {Q : Exit → Act → World → Prop} {d n : Nat} (c : Bool) (V : Value) (hw : Region.wanted o (yielded ops T) = c) (he : c = true → (execOp (⟨T,df⟩ : Act).eval o).run Tryz.prog w = .ok (.value V) w) (hd : o.dst = some d) (hz : T.size = n) (hn : d < n)
  (hk : ∀ T' : Array Value,T'.size = n → (∀ i,i ≠ d → T'[i]? = T[i]?) → T'[d]? = some (gw c V) → wpList Tryz.prog ops Q rest ⟨T',df⟩ w) : wpList Tryz.prog ops Q (o :: rest) ⟨T,df⟩ w:=by
 cases c with
 | false =>
  refine wpList_skip hw ?_;rw [hd]
  exact hk (T.setIfInBounds d undef) (by simp [hz]) (fun i hi => at_set_ne _ hi) (at_set _ (by omega))
 | true =>
  refine wl_val (v:=V) hw (he rfl) ?_;rw [hd]
  exact hk (T.setIfInBounds d V) (by simp [hz]) (fun i hi => at_set_ne _ hi) (at_set _ (by omega))
theorem vcall {ops : Array Oper} {rest : List Oper} {o : Oper} {T : Array Value} {df : List Deferred} {w : World} {Q : Exit → Act → World → Prop} {d n : Nat} (c : Bool) (V : Value) {fid : FuncId} {args : Array Value} (hw : Region.wanted o (yielded ops T) = c) (he : c = true → (execOp (⟨T,df⟩ : Act).eval o).run Tryz.prog w = .ok (.enter fid args) w)
  (hc : c = true → Calls Tryz.prog fid args w fun e w' => e = .returned V∧Below w.heap.size w w') (hd : o.dst = some d) (hz : T.size = n) (hn : d < n)
  (hk : ∀ (T' : Array Value) (w' : World),Below w.heap.size w w' → T'.size = n → (∀ i,i ≠ d → T'[i]? = T[i]?) → T'[d]? = some (gw c V) → wpList Tryz.prog ops Q rest ⟨T',df⟩ w') : wpList Tryz.prog ops Q (o :: rest) ⟨T,df⟩ w:=by
 cases c with
 | false =>
  refine wpList_skip hw ?_;rw [hd]
  exact hk (T.setIfInBounds d undef) w BR (by simp [hz]) (fun i hi => at_set_ne _ hi) (at_set _ (by omega))
 | true =>
  refine BigFrame.wpList_want hw (fun K hK => ?_)
  unfold Oper.wp
  rw [he rfl,Oper.upon_enter];refine (hc rfl).mono ?_;rintro e w' ⟨rfl,hb⟩;refine hK _ _ ?_;rw [hd]
  exact hk (T.setIfInBounds d V) w' hb (by simp [hz]) (fun i hi => at_set_ne _ hi) (at_set _ (by omega))
theorem vcallP {ops : Array Oper} {rest : List Oper} {o : Oper} {T : Array Value} {df : List Deferred} {w : World} {Q : Exit → Act → World → Prop} {d n : Nat} {fid : FuncId} {args : Array Value} {R : Ending → World → Prop} (hw : Region.wanted o (yielded ops T) = true) (he : (execOp (⟨T,df⟩ : Act).eval o).run Tryz.prog w = .ok (.enter fid args) w)
  (hc : Calls Tryz.prog fid args w R) (hd : o.dst = some d) (hz : T.size = n) (hn : d < n)
  (hk : ∀ (e : Ending) (w' : World),R e w' → ∃ V,e = .returned V∧∀ T' : Array Value,T'.size = n → (∀ i,i ≠ d → T'[i]? = T[i]?) → T'[d]? = some (gw true V) → wpList Tryz.prog ops Q rest ⟨T',df⟩ w') : wpList Tryz.prog ops Q (o :: rest) ⟨T,df⟩ w:=by
 refine BigFrame.wpList_want hw (fun K hK => ?_)
 unfold Oper.wp
 rw [he,Oper.upon_enter];refine hc.mono ?_;intro e w' hR;obtain ⟨V,rfl,hk'⟩:=hk e w' hR;refine hK _ _ ?_;rw [hd]
 exact hk' (T.setIfInBounds d V) (by simp [hz]) (fun i hi => at_set_ne _ hi) (at_set _ (by omega))
theorem ev {T : Array Value} {df : List Deferred} {i : Nat} {c : Bool} {X : Value} (h : T[i]? = some (gw c X)) (hc : c = true) : (⟨T,df⟩ : Act).eval (.tmp i) = X:=by
 subst hc
 exact getD_of h
theorem evc {T : Array Value} {df : List Deferred} {x : Value} : (⟨T,df⟩ : Act).eval (.const x) = x:=rfl
theorem and_r {a b p : Bool} (h : (a && (b == p)) = true) : b = p:=by cases a <;> cases b <;> cases p <;> simp_all
theorem ex_move {o : Oper} {ρ : Operand → Value} {x : Operand} {X : Value} {w : World} (ho : o.op = .move x) (hx : ρ x = X) : (execOp ρ o).run Tryz.prog w = .ok (.value X) w:=by
 unfold execOp
 simp only [ho,hx]
 rfl
theorem ex_assign {o : Oper} {ρ : Operand → Value} {x : Operand} {X : Value} {w : World} (ho : o.op = .assign x) (hx : ρ x = X) : (execOp ρ o).run Tryz.prog w = .ok (.value X) w:=by
 unfold execOp
 simp only [ho,hx]
 rfl
theorem ex_fa {o : Oper} {ρ : Operand → Value} {s : TypeId} {f : Nat} {x : Operand} {X V : Value} {w : World} (ho : o.op = .fieldAddr s x f) (hx : ρ x = X) (hr : (Instr.fieldAt s X f).run Tryz.prog w = .ok V w) : (execOp ρ o).run Tryz.prog w = .ok (.value V) w:=by
 unfold execOp
 simp only [ho,hx,Sem.run_bind,hr,Result.andThen_ok]
 rfl
theorem ex_ld {o : Oper} {ρ : Operand → Value} {s : TypeId} {x : Operand} {X V : Value} {w : World} (ho : o.op = .load s x) (hx : ρ x = X) (hr : (Instr.loadAt s X).run Tryz.prog w = .ok V w) : (execOp ρ o).run Tryz.prog w = .ok (.value V) w:=by
 unfold execOp
 simp only [ho,hx,Sem.run_bind,hr,Result.andThen_ok]
 rfl
theorem ex_ix {o : Oper} {ρ : Operand → Value} {s : TypeId} {x y : Operand} {X Y V : Value} {w : World} (ho : o.op = .indexAddr s x y) (hx : ρ x = X) (hy : ρ y = Y) (hr : (Instr.indexAt s X Y).run Tryz.prog w = .ok V w) : (execOp ρ o).run Tryz.prog w = .ok (.value V) w:=by
 unfold execOp
 simp only [ho,hx,hy,Sem.run_bind,hr,Result.andThen_ok]
 rfl
theorem ex_bin {o : Oper} {ρ : Operand → Value} {b : BinOp} {s t : TypeId} {x y : Operand} {X Y V : Value} {w : World} (ho : o.op = .binOp b s x y t) (hx : ρ x = X) (hy : ρ y = Y) (hr : (do eqGuard b s x y X Y;binOp b s X Y : Sem Value).run Tryz.prog w = .ok V w) : (execOp ρ o).run Tryz.prog w = .ok (.value V) w:=by
 unfold execOp
 simp only [ho,hx,hy];rw [Sem.run_bind,hr]
 rfl
theorem ex_build {o : Oper} {ρ : Operand → Value} {s : TypeId} {V : Value} {w : World} (ho : o.op = .build s #[]) (hr : (Instr.build s #[]).run Tryz.prog w = .ok V w) : (execOp ρ o).run Tryz.prog w = .ok (.value V) w:=by
 unfold execOp
 simp only [ho];rw [Sem.run_bind];simp only [List.map_toArray,List.map_nil,hr]
 rfl
theorem ex_not {o : Oper} {ρ : Operand → Value} {s : TypeId} {x : Operand} {b : Bool} {w : World} (ho : o.op = .unOp .not s x) (hx : ρ x = .bool b) : (execOp ρ o).run Tryz.prog w = .ok (.value (.bool (!b))) w:=by
 unfold execOp
 simp only [ho,hx]
 rfl
theorem ex_call {o : Oper} {T : Array Value} {df : List Deferred} {fid : FuncId} {xs : Array Operand} {ts : Array TypeId} {args : Array Value} {w : World} (ho : o.op = .call { callee:=.value (.func fid),args:=xs,argTypes:=ts }) (ha : xs.map (⟨T,df⟩ : Act).eval = args) (hr : (do let d ← Deferred.ofValue ((⟨T,df⟩ : Act).eval (.func fid)) args;invoke d.target d.args : Sem Next).run Tryz.prog w = .ok (.enter fid args) w) : (execOp (⟨T,df⟩ : Act).eval o).run Tryz.prog w = .ok (.enter fid args) w:=by
 unfold execOp
 simp only [ho,resolve,ha]
 exact hr
theorem ex_or {o : Oper} {T : Array Value} {df : List Deferred} {j y : Nat} {c b z : Bool} {w : World} (ho : o.op = .pick (.tmp j) (.const (.bool true)) (.tmp y)) (hj : T[j]? = some (gw c (.bool b))) (hy : T[y]? = some (gw (c && (b == false)) (.bool z))) (hc : c = true) : (execOp (⟨T,df⟩ : Act).eval o).run Tryz.prog w = .ok (.value (.bool (b || z))) w:=by
 subst hc
 unfold execOp
 simp only [ho,Act.eval,getD_of hj,getD_of hy]
 cases b <;> rfl
theorem ex_and {o : Oper} {T : Array Value} {df : List Deferred} {j x : Nat} {c b z : Bool} {w : World} (ho : o.op = .pick (.tmp j) (.tmp x) (.const (.bool false))) (hj : T[j]? = some (gw c (.bool b))) (hy : T[x]? = some (gw (c && (b == true)) (.bool z))) (hc : c = true) : (execOp (⟨T,df⟩ : Act).eval o).run Tryz.prog w = .ok (.value (.bool (b && z))) w:=by
 subst hc
 unfold execOp
 simp only [ho,Act.eval,getD_of hj,getD_of hy]
 cases b <;> rfl
theorem ex_lenE {o : Oper} {ρ : Operand → Value} {i : Nat} {a : Option Addr} {n k : Nat} {w : World} (ho : o.op = .call { callee:=.builtin .len,args:=#[.tmp i],argTypes:=#[25] }) (ht : o.type = 3) (hx : ρ (.tmp i) = .slice a n k) : (execOp ρ o).run Tryz.prog w = .ok (.value (.int .i64 (n : Int))) w:=by
 unfold execOp
 simp only [ho];rw [Sem.run_bind];simp only [resolve,LA,LB,LC,hx,ht]
 go_simp
theorem ex_lenV {o : Oper} {ρ : Operand → Value} {i : Nat} {a : Option Addr} {n k : Nat} {w : World} (ho : o.op = .call { callee:=.builtin .len,args:=#[.tmp i],argTypes:=#[27] }) (ht : o.type = 3) (hx : ρ (.tmp i) = .slice a n k) : (execOp ρ o).run Tryz.prog w = .ok (.value (.int .i64 (n : Int))) w:=by
 unfold execOp
 simp only [ho];rw [Sem.run_bind];simp only [resolve,LA,LB,LC,hx,ht]
 go_simp
theorem ex_lenB {o : Oper} {ρ : Operand → Value} {i : Nat} {a : Option Addr} {n k : Nat} {w : World} (ho : o.op = .call { callee:=.builtin .len,args:=#[.tmp i],argTypes:=#[84] }) (ht : o.type = 3) (hx : ρ (.tmp i) = .slice a n k) : (execOp ρ o).run Tryz.prog w = .ok (.value (.int .i64 (n : Int))) w:=by
 unfold execOp
 simp only [ho];rw [Sem.run_bind];simp only [resolve,LA,LB,LC,hx,ht]
 go_simp
theorem eqlC (x y : Operand) (a b : Int) (w : World) : (do eqGuard .eql 3 x y (.int .i64 a) (.int .i64 b);binOp .eql 3 (.int .i64 a) (.int .i64 b) : Sem Value).run Tryz.prog w = .ok (.bool (decide (a = b))) w:=by
 go_simp
 by_cases h : a = b <;> simp [h]
theorem neqC (x y : Operand) (a b : Int) (w : World) : (do eqGuard .neq 3 x y (.int .i64 a) (.int .i64 b);binOp .neq 3 (.int .i64 a) (.int .i64 b) : Sem Value).run Tryz.prog w = .ok (.bool (!decide (a = b))) w:=by
 go_simp
 by_cases h : a = b <;> simp [h]
theorem lssC (x y : Operand) (a b : Int) (w : World) : (do eqGuard .lss 3 x y (.int .i64 a) (.int .i64 b);binOp .lss 3 (.int .i64 a) (.int .i64 b) : Sem Value).run Tryz.prog w = .ok (.bool (decide (a < b))) w:=by
 go_simp
theorem geqC (x y : Operand) (a b : Int) (w : World) : (do eqGuard .geq 3 x y (.int .i64 a) (.int .i64 b);binOp .geq 3 (.int .i64 a) (.int .i64 b) : Sem Value).run Tryz.prog w = .ok (.bool (decide (b ≤ a))) w:=by
 go_simp
theorem gtrC (x y : Operand) (a b : Int) (w : World) : (do eqGuard .gtr 3 x y (.int .i64 a) (.int .i64 b);binOp .gtr 3 (.int .i64 a) (.int .i64 b) : Sem Value).run Tryz.prog w = .ok (.bool (decide (b < a))) w:=by
 go_simp
theorem neqB (x y : Operand) (a b : Bool) (w : World) : (do eqGuard .neq 4 x y (.bool a) (.bool b);binOp .neq 4 (.bool a) (.bool b) : Sem Value).run Tryz.prog w = .ok (.bool (a != b)) w:=by
 cases a <;> cases b <;> go_simp
theorem buildDr (w : World) : (Instr.build 52 #[]).run Tryz.prog w = .ok (.agg #[.int .u64 0,.int .u64 0]) w:=by
 go_simp
theorem buildEn (w : World) : (Instr.build 47 #[]).run Tryz.prog w = .ok (.agg #[.int .i64 0,.int .i64 0,.int .i64 0,.int .i64 0,.string ⟨#[]⟩]) w:=by
 go_simp
theorem buildRs (w : World) : (Instr.build 49 #[]).run Tryz.prog w = .ok (.agg #[.int .i64 0,.int .i64 0,.string ⟨#[]⟩]) w:=by
 go_simp
theorem ixBool (g j n cu : Nat) (hj : j < n) (w : World) : (Instr.indexAt 84 (.slice (some ⟨g,0,none⟩) n cu) (.int .i64 (j : Int))).run Tryz.prog w = .ok (.pointer (some ⟨g,j,none⟩)) w:=by
 have h1 : (j : Int) < (n : Int):=by omega
 go_simp
theorem ldBool {w : World} {g j : Nat} {b : Bool} (h : w.cell? ⟨g,j,none⟩ = some (.bool b)) : (Instr.loadAt 4 (.pointer (some ⟨g,j,none⟩))).run Tryz.prog w = .ok (.bool b) w:=by
 go_simp
theorem vt {ops : Array Oper} {rest : List Oper} {o : Oper} {T : Array Value} {df : List Deferred} {w : World} {Q : Exit → Act → World → Prop} {d n : Nat} (V : Value) (he : (execOp (⟨T,df⟩ : Act).eval o).run Tryz.prog w = .ok (.value V) w) (hz : T.size = n)
  (hk : ∀ T' : Array Value,T'.size = n → (∀ i,i ≠ d → T'[i]? = T[i]?) → T'[d]? = some (gw true V) → wpList Tryz.prog ops Q rest ⟨T',df⟩ w) (hg : o.guard = none:=by rfl) (hd : o.dst = some d:=by rfl) (hn : d < n:=by decide) : wpList Tryz.prog ops Q (o :: rest) ⟨T,df⟩ w:=vl true V (want_none hg) (fun _ => he) hd hz hn hk
theorem ku {T T' : Array Value} {d i : Nat} {v : Option Value} (h : T[i]? = v) (kk : ∀ i,i ≠ d → T'[i]? = T[i]?:=by assumption) (hi : i ≠ d:=by decide) : T'[i]? = v:=(kk i hi).trans h
structure VH (ops : Array Oper) (Q : Exit → Act → World → Prop) (S : World → Prop) (fuel : Nat) (listed : Array Bool) (a : Act) (w : World) : Prop where
 out : wpAnyH Tryz.prog .any ops (NoPanic Q) S fuel listed a w
theorem vh_start {id : Nat} {Q : Exit → Act → World → Prop} {a : Act} {w : World} {l : List Oper} (S : World → Prop) (hm : Tryz.prog.follows .mixedOrders = true) (h : VH l.toArray Q S l.length (Array.replicate l.length false) a w.drew) : (Code.region id l.toArray true).wp Tryz.prog Q a w :=
 wp_region_noPanic (wp_region_held (S:=S) hm (by simpa using h.out))
theorem vh_done {ops : Array Oper} {Q : Exit → Act → World → Prop} {S : World → Prop} {fuel : Nat} {listed : Array Bool} {a : Act} {w : World} (hr : Region.ready .any ops listed = []) (h : Q .normal a w) : VH ops Q S fuel listed a w:=⟨wpAnyH_done hr (NoPanic.normal h) _⟩
theorem vh_take {ops : Array Oper} {o : Oper} {T : Array Value} {df : List Deferred} {w : World} {Q : Exit → Act → World → Prop} {S : World → Prop} {fuel d n : Nat} {listed : Array Bool} (i : Nat) (c : Bool) (V : Value) (hi : ops[i]? = some o) (hs : Region.noSelect ops = true) (hf : Region.free .any ops listed i = true) (hr : (Region.ready .any ops listed).contains i = true)
  (hw : Region.wanted o (yielded ops T) = c) (he : c = true → ∀ v,S v → (execOp (⟨T,df⟩ : Act).eval o).run Tryz.prog v = .ok (.value V) v) (hd : o.dst = some d) (hz : T.size = n) (hn : d < n) (hS : S w)
  (hk : ∀ T' : Array Value,T'.size = n → (∀ j,j ≠ d → T'[j]? = T[j]?) → T'[d]? = some (gw c V) → VH ops Q S fuel (listed.setIfInBounds i true) ⟨T',df⟩ w) : VH ops Q S (fuel + 1) listed ⟨T,df⟩ w:=by
 cases c with
 | false =>
  refine ⟨wpAnyH_take (v:=undef) hi hs hf hr (fun _ _ _ h => h) (.inr ⟨hw,rfl⟩) hS ?_⟩;rw [hd]
  exact (hk (T.setIfInBounds d undef) (by simp [hz]) (fun i hi => at_set_ne _ hi) (at_set _ (by omega))).out
 | true =>
  refine ⟨wpAnyH_take (v:=V) hi hs hf hr (fun _ _ _ h => h) (.inl ⟨hw,he rfl⟩) hS ?_⟩;rw [hd]
  exact (hk (T.setIfInBounds d V) (by simp [hz]) (fun i hi => at_set_ne _ hi) (at_set _ (by omega))).out
theorem vh_call {ops : Array Oper} {o : Oper} {T : Array Value} {df : List Deferred} {w : World} {Q : Exit → Act → World → Prop} {S : World → Prop} {fuel d n : Nat} {listed : Array Bool} (i : Nat) {fid : FuncId} {args : Array Value} {R : Ending → World → Prop} (hi : ops[i]? = some o) (hr : Region.ready .any ops listed = [i])
  (hw : Region.wanted o (yielded ops T) = true) (he : (execOp (⟨T,df⟩ : Act).eval o).run Tryz.prog w = .ok (.enter fid args) w) (hc : Calls Tryz.prog fid args w R) (hd : o.dst = some d) (hz : T.size = n) (hn : d < n)
  (hk : ∀ (e : Ending) (w' : World),R e w' → ∃ V,e = .returned V∧S w'∧∀ T' : Array Value,T'.size = n → (∀ j,j ≠ d → T'[j]? = T[j]?) → T'[d]? = some (gw true V) → VH ops Q S fuel (listed.setIfInBounds i true) ⟨T',df⟩ w') : VH ops Q S (fuel + 1) listed ⟨T,df⟩ w:=by
 refine ⟨wpAnyH_all hr (by simp) (fun j hj => ?_)⟩
 obtain rfl : j = i:=by simpa using hj
 unfold wpOp
 rw [hi];simp only [hw,if_true];refine .inl ?_
 unfold Oper.wp
 rw [he,Oper.upon_enter];refine hc.mono ?_;intro e w' hR;obtain ⟨V,rfl,hS,hk'⟩:=hk e w' hR;refine ⟨hS,?_⟩;rw [hd]
 exact (hk' (T.setIfInBounds d V) (by simp [hz]) (fun i hi => at_set_ne _ hi) (at_set _ (by omega))).out
end Go.Proofs.YtpcgnjpodnebpaaGreatDoor
