import Derived.Test.YtcchnaldanibgaaVm
import Derived.WalkKit
import Derived.WalkSpells
import Derived.WalkLawsBesides
import Derived.Below
import Derived.Deep.QuietTactic
import Derived.BigQuiet
import Derived.Deep.RegionWith
import Derived.Deep.RegionLaw
import Derived.Deep.Light
import Derived.Lib.AppendStr
import Derived.Laws.AppendOwnNone
import Derived.Laws.CopyOwn
import Derived.Deep.RegionHeld3
namespace Go.Proofs.Ytcchnaldanibgaa
open Go.RowKit
set_option linter.unusedVariables false

theorem int_eq {k : IntKind} {a b : Int} (h : a = b) : Value.int k a = .int k b := by rw [h]
theorem ret_int {k : IntKind} {a b : Int} (h : a = b) : Ending.returned (.int k a) = .returned (.int k b) := by rw [h]
theorem hide {p : Prop} (h : p) : Hid p := h
theorem u64_wf {a : Int} (h : (Lit.int .u64 a).wf = true) : 0 ≤ a ∧ a ≤ 18446744073709551615 := by
  simp [Lit.wf, IntKind.min, IntKind.max, IntKind.bits, IntKind.signed] at h
  omega
theorem i64_wf {a : Int} (h : (Lit.int .i64 a).wf = true) : -9223372036854775808 ≤ a ∧ a ≤ 9223372036854775807 := by
  simp [Lit.wf, IntKind.min, IntKind.max, IntKind.bits, IntKind.signed] at h
  omega

/-- What a call may have changed: new blocks, and of the old ones those of S alone. -/
structure Upd (S : Nat → Prop) (w w' : World) : Prop where
  os : w'.os = w.os
  tape : w'.tape = w.tape
  output : w'.output = w.output
  size : w.heap.size ≤ w'.heap.size
  block : ∀ k, k < w.heap.size → ¬ S k → w'.heap[k]? = w.heap[k]?
theorem Upd.refl (S : Nat → Prop) (w : World) : Upd S w w := ⟨rfl, rfl, rfl, Nat.le_refl _, fun _ _ _ => rfl⟩
theorem Upd.trans {S : Nat → Prop} {a b c : World} (h : Upd S a b) (k : Upd S b c) : Upd S a c :=
  ⟨k.os.trans h.os, k.tape.trans h.tape, k.output.trans h.output, Nat.le_trans h.size k.size, fun i hi hs => (k.block i (Nat.lt_of_lt_of_le hi h.size) hs).trans (h.block i hi hs)⟩
theorem Upd.mono {S T : Nat → Prop} {w w' : World} (h : Upd S w w') (hs : ∀ k, k < w.heap.size → S k → T k) : Upd T w w' :=
  ⟨h.os, h.tape, h.output, h.size, fun k hk ht => h.block k hk (fun h2 => ht (hs k hk h2))⟩
theorem Upd.below {S : Nat → Prop} {w w' : World} {B : Nat} (h : Upd S w w') (hB : B ≤ w.heap.size) (hs : ∀ k, S k → B ≤ k) : Below B w w' :=
  ⟨h.os, h.tape, h.output, h.size, fun k hk => h.block k (by omega) (fun h2 => by have := hs k h2; omega)⟩
theorem Upd.of_below {S : Nat → Prop} {w w' : World} (h : Below w.heap.size w w') : Upd S w w' :=
  ⟨h.os, h.tape, h.output, h.size, fun k hk _ => h.block k hk⟩
theorem Upd.drewN {S : Nat → Prop} {a w : World} (h : Upd S a w) (k : Nat) : Upd S a (w.drewN k) := ⟨h.os, h.tape, h.output, h.size, h.block⟩
theorem Upd.alloc {S : Nat → Prop} {a w : World} (h : Upd S a w) (o : Obj) : Upd S a (w.alloc o) :=
  h.trans ⟨rfl, rfl, rfl, by simp, fun k hk _ => Below.heap_alloc _ _ _ hk⟩
theorem Upd.setCell {S : Nat → Prop} {a w : World} (h : Upd S a w) {p : Addr} (hp : S p.block ∨ a.heap.size ≤ p.block) (u : Value) : Upd S a (w.setCell p u) :=
  ⟨h.os, h.tape, h.output, by simpa [World.setCell] using h.size, fun k hk hs => (Below.heap_setCell w p u k (fun e => by
    rcases hp with hp | hp
    · exact hs (e ▸ hp)
    · omega)).trans (h.block k hk hs)⟩
theorem Upd.cell {S : Nat → Prop} {w w' : World} (h : Upd S w w') {p : Addr} (hp : p.block < w.heap.size) (hs : ¬ S p.block) : w'.cell? p = w.cell? p := World.cell?_of_block (w := w) (h.block p.block hp hs)
theorem Upd.frozen {S : Nat → Prop} {w w' : World} (h : Upd S w w') {p : Addr} (hp : p.block < w.heap.size) (hs : ¬ S p.block) : w'.frozen? p = w.frozen? p := World.frozen?_of_block (w := w) (h.block p.block hp hs)



/-- A draw in a block of its own. -/
structure Dr (w : World) (b : Nat) (h l : Int) : Prop where
  lt : b < w.heap.size
  c0 : w.cell? ⟨b, 0, none⟩ = some (.int .u64 h)
  c1 : w.cell? ⟨b, 1, none⟩ = some (.int .u64 l)
theorem Dr.upd {S : Nat → Prop} {w w' : World} {b : Nat} {h l : Int} (d : Dr w b h l) (u : Upd S w w') (hs : ¬ S b) : Dr w' b h l :=
  ⟨Nat.lt_of_lt_of_le d.lt u.size, (u.cell d.lt hs).trans d.c0, (u.cell d.lt hs).trans d.c1⟩
theorem Dr.bel {w w' : World} {b : Nat} {h l : Int} (d : Dr w b h l) (u : Below w.heap.size w w') : Dr w' b h l :=
  ⟨Nat.lt_of_lt_of_le d.lt u.size, (u.cell d.lt).trans d.c0, (u.cell d.lt).trans d.c1⟩
theorem Dr.al {w : World} {b : Nat} {h l : Int} (d : Dr w b h l) (o : Obj) : Dr (w.alloc o) b h l := d.upd (S := fun _ => False) ((Upd.refl _ w).alloc o) id
theorem Dr.new (w : World) (h l : Int) (t : TypeId) : Dr (w.alloc (.cells #[.int .u64 h, .int .u64 l] t)) w.heap.size h l := ⟨by simp, by simp, by simp⟩

theorem Below.on {B : Nat} {w v v' : World} (hB : B ≤ w.heap.size) (h : Below B w v) (k : Below v.heap.size v v') : Below B w v' := h.trans (k.mono (Nat.le_trans hB h.size))

theorem upd_below {B p : Nat} {w v v' : World} (hB : B ≤ w.heap.size) (h : Below B w v) (hp : B ≤ p) (k : Upd (· = p) v v') : Below B w v' :=
  h.trans (k.below (Nat.le_trans hB h.size) (by rintro k rfl; exact hp))



set_option maxHeartbeats 400000 in
theorem compare_any (h l h' l' : Int) (w : World) :
    Calls Try.prog 48 #[.agg #[.int .u64 h, .int .u64 l], .agg #[.int .u64 h', .int .u64 l']] w fun e w' => e = .returned (.int .i64 (cmpD h l h' l')) ∧ Below w.heap.size w w' := by
  by_cases e1 : h = h'
  · subst e1
    rcases Int.lt_trichotomy l l' with c | c | c
    · have hc : cmpD h l h l' = -1 := by unfold cmpD cmpI; rw [if_pos rfl, if_pos c]
      rw [hc]; clear hc
      have f1 : (l == l') = false := by simp; omega
      have f2 : ¬ l = l' := by omega
      have f3 : ¬ l' < l := by omega
      go_enter Try.func48, Try.ntmps48
      go_wp2
      go_ret
      exact ⟨rfl, ((Below.refl _ _).alloc (Nat.le_refl _) _).alloc (by simp) _⟩
    · subst c
      have hc : cmpD h l h l = 0 := by unfold cmpD cmpI; rw [if_pos rfl, if_neg (by omega), if_neg (by omega)]
      rw [hc]; clear hc
      go_enter Try.func48, Try.ntmps48
      go_wp2
      go_ret
      exact ⟨rfl, ((Below.refl _ _).alloc (Nat.le_refl _) _).alloc (by simp) _⟩
    · have hc : cmpD h l h l' = 1 := by unfold cmpD cmpI; rw [if_pos rfl, if_neg (by omega), if_pos c]
      rw [hc]; clear hc
      have f1 : (l == l') = false := by simp; omega
      have f2 : ¬ l = l' := by omega
      have f3 : ¬ l < l' := by omega
      go_enter Try.func48, Try.ntmps48
      go_wp2
      go_ret
      exact ⟨rfl, ((Below.refl _ _).alloc (Nat.le_refl _) _).alloc (by simp) _⟩
  · have f0 : (h == h') = false := by simp [e1]
    rcases (by omega : h < h' ∨ h' < h) with c | c
    · have hc : cmpD h l h' l' = -1 := by unfold cmpD cmpI; rw [if_neg e1, if_pos c]
      rw [hc]; clear hc
      have f3 : ¬ h' < h := by omega
      go_enter Try.func48, Try.ntmps48
      go_wp2
      go_ret
      exact ⟨rfl, ((Below.refl _ _).alloc (Nat.le_refl _) _).alloc (by simp) _⟩
    · have hc : cmpD h l h' l' = 1 := by unfold cmpD cmpI; rw [if_neg e1, if_neg (by omega), if_pos c]
      rw [hc]; clear hc
      have f3 : ¬ h < h' := by omega
      go_enter Try.func48, Try.ntmps48
      go_wp2
      go_ret
      exact ⟨rfl, ((Below.refl _ _).alloc (Nat.le_refl _) _).alloc (by simp) _⟩



set_option maxHeartbeats 400000 in
theorem refcompare_any (h l h' l' : Int) (w : World) :
    Calls Try.prog 70 #[.agg #[.int .u64 h, .int .u64 l], .agg #[.int .u64 h', .int .u64 l']] w fun e w' => e = .returned (.int .i64 (cmpD h l h' l')) ∧ Below w.heap.size w w' := by
  by_cases e1 : h = h'
  · subst e1
    rcases Int.lt_trichotomy l l' with c | c | c
    · have hc : cmpD h l h l' = -1 := by unfold cmpD cmpI; rw [if_pos rfl, if_pos c]
      rw [hc]; clear hc
      have f1 : (l == l') = false := by simp; omega
      have f2 : ¬ l = l' := by omega
      have f3 : ¬ l' < l := by omega
      go_enter Try.func70, Try.ntmps70
      go_wp2
      go_ret
      exact ⟨rfl, ((Below.refl _ _).alloc (Nat.le_refl _) _).alloc (by simp) _⟩
    · subst c
      have hc : cmpD h l h l = 0 := by unfold cmpD cmpI; rw [if_pos rfl, if_neg (by omega), if_neg (by omega)]
      rw [hc]; clear hc
      go_enter Try.func70, Try.ntmps70
      go_wp2
      go_ret
      exact ⟨rfl, ((Below.refl _ _).alloc (Nat.le_refl _) _).alloc (by simp) _⟩
    · have hc : cmpD h l h l' = 1 := by unfold cmpD cmpI; rw [if_pos rfl, if_neg (by omega), if_pos c]
      rw [hc]; clear hc
      have f1 : (l == l') = false := by simp; omega
      have f2 : ¬ l = l' := by omega
      have f3 : ¬ l < l' := by omega
      go_enter Try.func70, Try.ntmps70
      go_wp2
      go_ret
      exact ⟨rfl, ((Below.refl _ _).alloc (Nat.le_refl _) _).alloc (by simp) _⟩
  · have f0 : (h == h') = false := by simp [e1]
    rcases (by omega : h < h' ∨ h' < h) with c | c
    · have hc : cmpD h l h' l' = -1 := by unfold cmpD cmpI; rw [if_neg e1, if_pos c]
      rw [hc]; clear hc
      have f3 : ¬ h' < h := by omega
      go_enter Try.func70, Try.ntmps70
      go_wp2
      go_ret
      exact ⟨rfl, ((Below.refl _ _).alloc (Nat.le_refl _) _).alloc (by simp) _⟩
    · have hc : cmpD h l h' l' = 1 := by unfold cmpD cmpI; rw [if_neg e1, if_neg (by omega), if_pos c]
      rw [hc]; clear hc
      have f3 : ¬ h < h' := by omega
      go_enter Try.func70, Try.ntmps70
      go_wp2
      go_ret
      exact ⟨rfl, ((Below.refl _ _).alloc (Nat.le_refl _) _).alloc (by simp) _⟩



/-- Draws as cells. -/
def dcs : List (Int × Int) → List Value
  | [] => []
  | d :: r => .int .u64 d.1 :: .int .u64 d.2 :: dcs r
theorem dcs_length : ∀ l : List (Int × Int), (dcs l).length = l.length * 2
  | [] => rfl
  | d :: r => by simp only [dcs, List.length_cons, dcs_length r]; omega
theorem dcs_append : ∀ l m : List (Int × Int), dcs (l ++ m) = dcs l ++ dcs m
  | [], m => rfl
  | d :: r, m => by simp only [dcs, List.cons_append, dcs_append r m]
theorem dcs_get0 : ∀ (l : List (Int × Int)) (i : Nat) (d : Int × Int), l[i]? = some d → (dcs l)[i * 2]? = some (.int .u64 d.1)
  | [], i, d, h => by simp at h
  | x :: r, 0, d, h => by simp at h; subst h; simp [dcs]
  | x :: r, i + 1, d, h => by
    have e : (i + 1) * 2 = i * 2 + 1 + 1 := by omega
    rw [e]
    simp only [dcs, List.getElem?_cons_succ] at h ⊢
    exact dcs_get0 r i d h
theorem dcs_get1 : ∀ (l : List (Int × Int)) (i : Nat) (d : Int × Int), l[i]? = some d → (dcs l)[i * 2 + 1]? = some (.int .u64 d.2)
  | [], i, d, h => by simp at h
  | x :: r, 0, d, h => by simp at h; subst h; simp [dcs]
  | x :: r, i + 1, d, h => by
    have e : (i + 1) * 2 + 1 = i * 2 + 1 + 1 + 1 := by omega
    rw [e]
    simp only [dcs, List.getElem?_cons_succ] at h ⊢
    exact dcs_get1 r i d h
/-- A slice of draws of the call's own. -/
def OwnD (B : Nat) (w : World) (v : Value) (l : List (Int × Int)) : Prop := w.ownsRow B 26 2 v l.length (dcs l)
theorem OwnD.nil (B : Nat) (w : World) : OwnD B w (.slice none 0 0) [] := World.ownsRow_nil w B 26 2
theorem OwnD.alloc {B : Nat} {w : World} {v : Value} {l : List (Int × Int)} (h : OwnD B w v l) (o : Obj) : OwnD B (w.alloc o) v l := World.ownsRow.alloc h o
theorem OwnD.upd {B : Nat} {S : Nat → Prop} {w w' : World} {v : Value} {l : List (Int × Int)} (h : OwnD B w v l) (u : Upd S w w') (hs : ∀ k, B ≤ k → ¬ S k) : OwnD B w' v l := by
  obtain ⟨h1, h2⟩ := h
  refine ⟨h1, ?_⟩
  rcases h2 with h2 | ⟨g, cap, cur, e1, e2, e3, r⟩
  · exact .inl h2
  · refine .inr ⟨g, cap, cur, e1, e2, ?_, r⟩
    have hlt : g < w.heap.size := by
      rcases Nat.lt_or_ge g w.heap.size with h' | h'
      · exact h'
      · rw [Array.getElem?_eq_none h'] at e3; cases e3
    rw [u.block g hlt (hs g e2)]
    exact e3
theorem OwnD.form {B : Nat} {w : World} {v : Value} {l : List (Int × Int)} (h : OwnD B w v l) : ∃ a c, v = .slice a l.length c ∧ l.length ≤ c ∧ c ≤ maxLen ∧ (a = none → l = [] ∧ c = 0) ∧ ∀ x, a = some x → ∃ g, x = ⟨g, 0, none⟩ ∧ B ≤ g ∧ g < w.heap.size := by
  rcases h.2 with ⟨e1, e2⟩ | ⟨g, cap, cur, e1, e2, e3, e4, e5, _⟩
  · exact ⟨none, 0, by rw [e1, e2], by omega, by unfold maxLen; omega, fun _ => ⟨List.eq_nil_of_length_eq_zero e2, rfl⟩, fun x hx => by cases hx⟩
  · refine ⟨some ⟨g, 0, none⟩, cap, e1, e4, e5, (fun hx => by cases hx), fun x hx => ?_⟩
    cases hx
    refine ⟨g, rfl, e2, ?_⟩
    rcases Nat.lt_or_ge g w.heap.size with h' | h'
    · exact h'
    · rw [Array.getElem?_eq_none h'] at e3; cases e3
theorem OwnD.cell {B : Nat} {w : World} {g n c : Nat} {l : List (Int × Int)} (h : OwnD B w (.slice (some ⟨g, 0, none⟩) n c) l) (i : Nat) (d : Int × Int) (hd : l[i]? = some d) : w.cell? ⟨g, i * 2, none⟩ = some (.int .u64 d.1) ∧ w.cell? ⟨g, i * 2 + 1, none⟩ = some (.int .u64 d.2) := by
  have h0 := World.ownsRow.cells h (g := g) rfl _ _ (dcs_get0 l i d hd)
  have h1 := World.ownsRow.cells h (g := g) rfl _ _ (dcs_get1 l i d hd)
  rw [Addr.add_lit, Nat.zero_add] at h0 h1
  exact ⟨h0, h1⟩
theorem OwnD.grown {B : Nat} {w0 w w' : World} {v : Value} {l : List (Int × Int)} (ho : OwnD B w v l) (h0 : Below B w0 w) (hg : w.grownBy w' v.ownBlock) (hB : B ≤ w.heap.size) : Below B w0 w' :=
  h0.grown hg hB (fun k hk => (World.ownsRow.lt ho k hk).1)

theorem info_draw : (Try.prog.info? 26).map (fun i => (i.zero, i.size, i.bytes)) = some (some (.agg #[.int .u64 0, .int .u64 0]), 2, 16) := by kernel_rfl
theorem info_parts {P : Program} {t : TypeId} {z : Option Value} {s b : Nat} (h : (P.info? t).map (fun i => (i.zero, i.size, i.bytes)) = some (z, s, b)) : ∃ i, P.info? t = some i ∧ i.zero = z ∧ i.size = s ∧ i.bytes = b := by
  cases h2 : P.info? t with
  | none => rw [h2] at h; cases h
  | some i =>
    rw [h2] at h
    simp at h
    exact ⟨i, rfl, h.1, h.2.1, h.2.2⟩

/-- 'append' of one draw to draws of the call's own. -/
theorem app_draw (w : World) {ops : Array Oper} {rest : List Oper} {o : Oper} {a : Act} {Q : Exit → Act → World → Prop} (hgd : o.guard = none) (s x : Operand)
    (ho : o.op = .call { callee := .builtin .append, args := #[s, x], argTypes := #[23, 23] }) (B : Nat) (l : List (Int × Int)) (v : Value) (hs : a.eval s = v)
    (ad : Addr) (hx : a.eval x = .slice (some ad) 1 1) (h l' : Int) (hc : w.cell? ad = some (.int .u64 h)) (hc1 : w.cell? (ad.add 1) = some (.int .u64 l')) (hown : OwnD B w v l) (hB : B ≤ w.heap.size) (hb : (l.length + 1) * 16 ≤ 140737488355328)
    (hk : ∀ v' w', OwnD B w' v' (l ++ [(h, l')]) → v' ≠ .slice none 0 0 → w.grownBy w' v.ownBlock → wpList Try.prog ops Q rest (a.put o.dst v') w') : wpList Try.prog ops Q (o :: rest) a w := by
  obtain ⟨i0, hi, hz0, hz1, hz2⟩ := info_parts info_draw
  refine wpList_plain hgd fun K hK => ?_
  obtain ⟨v', w', hr, h2, h3, h4⟩ := run_append_own (P := Try.prog) w B 23 o.type 26 i0 (.agg #[.int .u64 0, .int .u64 0]) 2 16 Try.underlying23 hi hz0 hz1 hz2 rfl (by decide) v l.length (dcs l) hown ad 1 1 [.int .u64 h, .int .u64 l'] rfl (by
    intro j y hy
    match j, hy with
    | 0, hy => simp at hy; subst hy; obtain ⟨b, o, s⟩ := ad; exact hc
    | 1, hy => simp at hy; subst hy; exact hc1
    | j + 2, hy => simp at hy) (by intro y hy; simp at hy; rcases hy with rfl | rfl <;> rfl) (by unfold maxLen; omega) hb hB
  unfold Oper.wp execOp
  simp only [ho, resolve, invoke, builtin, Sem.run_bind, Sem.run_pure, Result.andThen_ok, List.map_toArray, List.map_cons, List.map_nil, hs, hx, hr]
  refine hK _ _ (hk v' w' ?_ (fun e => by have := (h4.1 e).2; omega) h3)
  have : dcs (l ++ [(h, l')]) = dcs l ++ [.int .u64 h, .int .u64 l'] := by rw [dcs_append]; rfl
  unfold OwnD
  rw [this, List.length_append]
  exact h2

/-- Draws that lie from an address on. -/
def Lie (w : World) (q o : Nat) (D : List (Int × Int)) : Prop := ∀ i d, D[i]? = some d → w.cell? ⟨q, o + i * 2, none⟩ = some (.int .u64 d.1) ∧ w.cell? ⟨q, o + i * 2 + 1, none⟩ = some (.int .u64 d.2)
theorem Lie.upd {S : Nat → Prop} {w w' : World} {q o : Nat} {D : List (Int × Int)} (h : Lie w q o D) (u : Upd S w w') (hq : q < w.heap.size) (hs : ¬ S q) : Lie w' q o D := fun i d hd =>
  ⟨(u.cell (p := ⟨q, o + i * 2, none⟩) hq hs).trans (h i d hd).1, (u.cell (p := ⟨q, o + i * 2 + 1, none⟩) hq hs).trans (h i d hd).2⟩
theorem Lie.tail {w : World} {q o : Nat} {d : Int × Int} {D : List (Int × Int)} (h : Lie w q o (d :: D)) : Lie w q (o + 2) D := fun i e he => by
  have := h (i + 1) e (by simpa using he)
  rw [show o + 2 + i * 2 = o + (i + 1) * 2 from by omega]
  exact this
/-- A slice of draws, whatever it is. -/
structure Sl (w : World) (v : Value) (D : List (Int × Int)) (a : Option Addr) (c : Nat) : Prop where
  form : v = .slice a D.length c
  cap : D.length ≤ c
  max : c ≤ maxLen
  nil : a = none → D = [] ∧ c = 0
  at_ : ∀ x, a = some x → (D = [] ∧ c = 0) ∨ ∃ q o, x = ⟨q, o, none⟩ ∧ q < w.heap.size ∧ Lie w q o D
theorem Sl.upd {S : Nat → Prop} {w w' : World} {v : Value} {D : List (Int × Int)} {a : Option Addr} {c : Nat} (h : Sl w v D a c) (u : Upd S w w') (hs : ∀ x, a = some x → D ≠ [] → ¬ S x.block) : Sl w' v D a c :=
  ⟨h.form, h.cap, h.max, h.nil, fun x hx => by
    rcases h.at_ x hx with h1 | ⟨q, o, rfl, hq, hl⟩
    · exact .inl h1
    · refine .inr ⟨q, o, rfl, Nat.lt_of_lt_of_le hq u.size, ?_⟩
      by_cases hD : D = []
      · subst hD
        intro i d hd
        cases hd
      · exact hl.upd u hq (hs _ hx hD)⟩


theorem dcs_one : ∀ (l : List (Int × Int)) (u : Value), u ∈ dcs l → u.oneCell' = true
  | [], u, h => by cases h
  | d :: r, u, h => by
    simp only [dcs, List.mem_cons] at h
    rcases h with rfl | rfl | h
    · rfl
    · rfl
    · exact dcs_one r u h
theorem dcs_at : ∀ (D : List (Int × Int)) (w : World) (q o : Nat), Lie w q o D → ∀ j u, (dcs D)[j]? = some u → w.cell? ⟨q, o + j, none⟩ = some u
  | [], w, q, o, h, j, u, hu => by simp [dcs] at hu
  | d :: r, w, q, o, h, 0, u, hu => by
    simp [dcs] at hu; subst hu
    have := (h 0 d rfl).1
    simpa using this
  | d :: r, w, q, o, h, 1, u, hu => by
    simp [dcs] at hu; subst hu
    have := (h 0 d rfl).2
    simpa using this
  | d :: r, w, q, o, h, j + 2, u, hu => by
    simp only [dcs, List.getElem?_cons_succ] at hu
    have := dcs_at r w q (o + 2) h.tail j u hu
    rw [show o + (j + 2) = o + 2 + j from by omega]
    exact this
/-- 'append' of draws that lie somewhere. -/
theorem app_draws (w : World) {ops : Array Oper} {rest : List Oper} {o : Oper} {a : Act} {Q : Exit → Act → World → Prop} (hgd : o.guard = none) (s x : Operand)
    (ho : o.op = .call { callee := .builtin .append, args := #[s, x], argTypes := #[23, 23] }) (B : Nat) (l : List (Int × Int)) (v : Value) (hs : a.eval s = v)
    (ad : Addr) (m c : Nat) (hx : a.eval x = .slice (some ad) m c) (news : List (Int × Int)) (hm : news.length = m) (hown : OwnD B w v l) (hnews : ∀ j u, (dcs news)[j]? = some u → w.cell? (ad.add j) = some u) (hB : B ≤ w.heap.size) (hb : (l.length + m) * 16 ≤ 140737488355328)
    (h : ∀ v' w', OwnD B w' v' (l ++ news) → w.grownBy w' v.ownBlock → wpList Try.prog ops Q rest (a.put o.dst v') w') : wpList Try.prog ops Q (o :: rest) a w := by
  obtain ⟨i0, hi, hz0, hz1, hz2⟩ := info_parts info_draw
  refine wpList_append_own _ hgd s x 23 ho B 26 i0 (.agg #[.int .u64 0, .int .u64 0]) 2 16 Try.underlying23 hi hz0 hz1 hz2 rfl (by decide) v l.length (dcs l) hs hown ad m c (dcs news) hx (by rw [dcs_length, hm]) hnews (dcs_one _) (by unfold maxLen; omega) hb hB ?_
  intro v' w' h2 h3 h4
  refine h v' w' ?_ h3
  unfold OwnD
  rw [dcs_append, List.length_append, hm]
  exact h2
theorem OwnD.sl {B : Nat} {w : World} {v : Value} {D : List (Int × Int)} (h : OwnD B w v D) : ∃ a c, Sl w v D a c ∧ ∀ z, a = some z → B ≤ z.block ∧ z.block < w.heap.size := by
  obtain ⟨a, c, rfl, h1, h2, h3, h4⟩ := h.form
  refine ⟨a, c, ⟨rfl, h1, h2, h3, fun x hx => ?_⟩, fun z hz => ?_⟩
  · obtain ⟨g, rfl, _, hl⟩ := h4 x hx
    subst hx
    exact .inr ⟨g, 0, rfl, hl, fun i d hd => by rw [Nat.zero_add]; exact h.cell i d hd⟩
  · obtain ⟨g, rfl, hB, hl⟩ := h4 z hz
    exact ⟨hB, hl⟩

end Go.Proofs.Ytcchnaldanibgaa
