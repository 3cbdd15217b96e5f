import Derived.Maps.OwnSet
import Derived.Maps.Views
import Derived.DeepKeys4
import Derived.WideKeyEntry
import Derived.Laws.IdiomStrings
import Derived.Lib.LazyBuf
import Derived.Lib.BufferWrite
import Derived.Lib.ConvBytes
import Derived.Laws.BitsAllLaws
import Derived.Test.YtjpkdnndhjnkpaaF0
set_option maxRecDepth 100000
set_option linter.unusedVariables false
set_option linter.unusedSimpArgs false
namespace Go.Proofs.Ytjpkdnndhjnkpaa
open Go.RowKit Go.Maps
def bst (l : List UInt8) : ByteArray := ⟨l.toArray⟩
theorem bst_size (l : List UInt8) : (bst l).size = l.length := by
  show l.toArray.size = _
  simp
structure Pk where
  t : Int
  s : List UInt8
  f : Int
def Pk.val (p : Pk) : Value := .agg #[.int .i64 p.t, .string (bst p.s), .int .i64 p.f]
def yP : Lay Pk := ⟨105, 81, 3, 32, fun x => [.int .i64 x.t, .string (bst x.s), .int .i64 x.f], ⟨0, [], 0⟩⟩
theorem kP : yP.Ok := ⟨by decide, fun x => rfl, fun x u h => by
    simp [yP] at h
    rcases h with rfl | rfl | rfl <;> rfl, Try.underlying81, ⟨.agg #[.int .i64 0, .string ByteArray.empty, .int .i64 0], by kernel_rfl, rfl⟩⟩
def yU : Lay UInt8 := ⟨5, 44, 1, 1, fun x => [.int .u8 (x.toNat : Int)], 0⟩
theorem kU : yU.Ok := ⟨by decide, fun x => rfl, fun x u h => by
    simp [yU] at h
    rw [h]; rfl, Try.underlying44, ⟨.int .u8 0, by kernel_rfl, rfl⟩⟩
structure Ap where
  f : Int
  t : Int
  a : Option Addr
  c : Nat
  s : List UInt8
def Ap.val (x : Ap) : Value := .agg #[.int .i64 x.f, .int .i64 x.t, .slice x.a x.s.length x.c]
def Ap.pk (x : Ap) : Pk := ⟨x.t, x.s, x.f⟩
def Ap.In (w : World) (x : Ap) : Prop := SlY yU w x.a x.s.length x.c x.s
def yA : Lay Ap := ⟨46, 60, 3, 40, fun x => [.int .i64 x.f, .int .i64 x.t, .slice x.a x.s.length x.c], ⟨0, 0, none, 0, []⟩⟩
theorem kA : yA.Ok := ⟨by decide, fun x => rfl, fun x u h => by
    simp [yA] at h
    rcases h with rfl | rfl | rfl <;> rfl, Try.underlying60, ⟨.agg #[.int .i64 0, .int .i64 0, .slice none 0 0], by kernel_rfl, rfl⟩⟩
theorem bytes_in {w : World} {a : Option Addr} {n c : Nat} {l : List UInt8} (h : SlY yU w a n c l) {x : Addr} (hx : a = some x) (j : Nat) (hj : j < l.length) : w.cell? (x.add j) = some (.int .u8 (l[j].toNat : Int)) := by
  rcases h.at_ x hx with e | ⟨q, o, rfl, _, hl⟩
  · subst e; simp at hj
  · have := hl j l[j] (List.getElem?_eq_getElem hj) 0 _ rfl
    rw [Addr.add_lit]
    rw [show o + j * yU.k + 0 = o + j from congrArg (o + ·) (Nat.mul_one j)] at this
    exact this
theorem conv_u {w : World} {a : Option Addr} {n c : Nat} {l : List UInt8} (h : SlY yU w a n c l) : (convert 44 9 (.slice a n c)).run Try.prog w = .ok (.string (bst l)) w := by
  obtain rfl := h.len
  cases a with
  | none =>
    obtain ⟨h1, h2⟩ := h.nil rfl
    obtain rfl := List.eq_nil_of_length_eq_zero h1
    rw [run_convert_bytes_string w 44 9 5 none _ c Try.underlying44 Try.underlying5 Try.underlying9]
    rfl
  | some x => exact run_convert_bytes_back w 44 9 5 x c l Try.underlying44 Try.underlying5 Try.underlying9 (fun j hj => bytes_in h rfl j hj)
/-! ### The map of what was sent -/
abbrev Ml : TypeId := 103
def kv (t : Int) (s : List UInt8) : Value := .agg #[.int .i64 t, .string (bst s)]
def kl (t : Int) (s : List UInt8) : Lit := .string (keyBytes [.int .i64 t, .string s])
theorem laidOut : laidOutB Try.prog = true := by kernel_rfl
theorem rowMl : Ml < Try.prog.types.size := of_decide_eq_true (by kernel_rfl)
theorem wideMl : (match Try.prog.underlying Ml with | some (.array _ _) | some (.struct _) => true | _ => false) = true := by kernel_rfl
theorem lawMl : WideMaps.KeyLaw Try.prog Ml := deep_law_laid laidOut (m := 2) (by omega) rowMl (by kernel_rfl) wideMl
theorem keyedMl : Keyed Try.prog Ml := Keyed.of_law lawMl
theorem cellsMl : Try.prog.cellsOf Ml = 2 := by kernel_rfl
theorem keyTypeMl : Try.prog.keyType Ml = true := by kernel_rfl
theorem keyOf_ml (t : Int) (s : List UInt8) (ht : (Lit.int .i64 t).wf = true) (hs : s.length ≤ maxLen) : keyOf Try.prog Ml (kv t s) = some (kl t s) := by
  have hf : (kv t s).formed Try.prog Ml = true := by
    unfold kv
    simp [Value.formed, Try.underlying103, cellsMl]
  have hl : Try.prog.keyLits (Try.prog.types.size + 1) Ml (kv t s).cells.toList = some [.int .i64 t, .string s] := by
    obtain ⟨m, hm⟩ : ∃ m, Try.prog.types.size = m + 1 := ⟨Try.prog.types.size - 1, (Nat.succ_pred_eq_of_pos (Nat.lt_of_le_of_lt (Nat.zero_le _) rowMl)).symm⟩
    rw [hm]
    have hc3 : Try.prog.cellsOf 3 = 1 := by kernel_rfl
    have hc9 : Try.prog.cellsOf 9 = 1 := by kernel_rfl
    have hsz : (bst s).size ≤ maxLen := by rw [bst_size]; exact hs
    have hsd : (bst s).data.toList = s := by simp [bst]
    simp [Program.keyLits, Try.underlying103, kv, Value.cells, cellsMl, Try.underlying3, Try.underlying9, hc3, hc9, ht, hsz, hsd]
  have hu : ∃ fs, Try.prog.underlying Ml = some (.struct fs) := ⟨_, Try.underlying103⟩
  obtain ⟨fs, hu⟩ := hu
  simp only [keyOf, hu, keyTypeMl, hf, Bool.and_self, if_true, hl, Option.map_some]
  rfl
theorem kl_inj {t t' : Int} {s s' : List UInt8} (ht : (Lit.int .i64 t).wf = true) (hs : s.length ≤ maxLen) (ht' : (Lit.int .i64 t').wf = true) (hs' : s'.length ≤ maxLen) (h : kl t s = kl t' s') : t = t' ∧ s = s' := by
  have := lawMl.inj (keyOf_ml t s ht hs) (h ▸ keyOf_ml t' s' ht' hs')
  unfold kv bst at this
  simpa using this
def MapK (w : World) (b n : Nat) (f : Int → List UInt8 → Option Int) : Prop := ∃ D : DataW Value, w.ownsMap Try.prog Ml RV b n D ∧ ∀ t s z, (Lit.int .i64 t).wf = true → s.length ≤ maxLen → D.atKey (kl t s) z = match f t s with | some v => .held (.int .u32 v) | none => z
theorem MapK.lt {w : World} {b n : Nat} {f : Int → List UInt8 → Option Int} (h : MapK w b n f) : b < w.heap.size := by obtain ⟨D, h1, _⟩ := h; exact h1.lt
theorem MapK.made (w : World) : MapK (w.alloc (.map #[] 0)) w.heap.size 0 (fun _ _ => none) := ⟨_, World.ownsMap_made w Try.prog Ml RV, fun t s z _ _ => rfl⟩
theorem MapK.block {w w' : World} {b n : Nat} {f : Int → List UInt8 → Option Int} (h : MapK w b n f) (e : w'.heap[b]? = w.heap[b]?) : MapK w' b n f := by
  obtain ⟨D, ⟨es, clock, hb, F, hs, hD⟩, h2⟩ := h
  exact ⟨D, ⟨es, clock, e.trans hb, F, hs, hD⟩, h2⟩
theorem MapK.upd {S : Nat → Prop} {w w' : World} {b n : Nat} {f : Int → List UInt8 → Option Int} (h : MapK w b n f) (u : Upd S w w') (hs : ¬ S b) : MapK w' b n f := h.block (u.block b h.lt hs)
theorem MapK.isMap {w : World} {b n : Nat} {f : Int → List UInt8 → Option Int} (h : MapK w b n f) : ∃ es c, w.heap[b]? = some (.map es c) := by
  obtain ⟨D, ⟨es, clock, hb, _⟩, _⟩ := h
  exact ⟨es, clock, hb⟩
theorem MapK.look {w : World} {b n : Nat} {f : Int → List UInt8 → Option Int} (h : MapK w b n f) {t : Int} {s : List UInt8} (ht : (Lit.int .i64 t).wf = true) (hs : s.length ≤ maxLen) :
    (Instr.lookup 82 (.map (some b)) (kv t s) false).run Try.prog w = .ok (.int .u32 ((f t s).getD 0)) w := by
  obtain ⟨D, ⟨es, clock, hb, F, hsz, hD⟩, h2⟩ := h
  have hz : (zeroValue 101).run Try.prog w = .ok (.int .u32 0) w := by kernel_rfl
  have h3 := h2 t s
  subst hD
  rcases Maps.fit_look false keyedMl Try.underlying82 hz hb F (keyOf_ml t s ht hs) with ⟨hrun, _, hat⟩ | ⟨e0, y, _, _, hrun, hRv, hat, _⟩
  · have : f t s = none := by
      cases hf : f t s with
      | none => rfl
      | some v =>
        have h4 := h3 .nil ht hs
        rw [hat .nil, hf] at h4
        cases h4
    rw [hrun, this]
    rfl
  · have : ∃ v, f t s = some v ∧ e0.val = .int .u32 v := by
      have h4 := h3 .nil ht hs
      rw [hat .nil] at h4
      simp [RV] at hRv
      rw [← hRv] at h4
      cases hf : f t s with
      | none => rw [hf] at h4; cases h4
      | some v => rw [hf] at h4; exact ⟨v, rfl, DataW.held.inj h4⟩
    obtain ⟨v, h5, h6⟩ := this
    rw [hrun, h5, h6]
    rfl
theorem MapK.put {w w' : World} {b n : Nat} {f : Int → List UInt8 → Option Int} (h : MapK w b n f) (hn : n < maxLen) {t : Int} {s : List UInt8} (ht : (Lit.int .i64 t).wf = true) (hs : s.length ≤ maxLen) (x : Int) (hr : (Instr.mapUpdate 82 (.map (some b)) (kv t s) (.int .u32 x)).run Try.prog w = .ok () w') : MapK w' b (n + 1) (fun t' s' => if t' = t ∧ s' = s then some x else f t' s') := by
  obtain ⟨D, h1, h2⟩ := h
  obtain ⟨w2, hr2, h3, _⟩ := h1.store keyedMl Try.underlying82 hn (keyOf_ml t s ht hs) (show RV (.int .u32 x) = some (.held (.int .u32 x), []) from rfl)
  rw [hr] at hr2
  cases hr2
  refine ⟨_, h3, fun t' s' z ht' hs' => ?_⟩
  by_cases e : t' = t ∧ s' = s
  · obtain ⟨rfl, rfl⟩ := e
    rw [Maps.atKey_put_same h1.isMap (by trivial)]
    simp
  · have hne : kl t' s' ≠ kl t s := fun h => e (kl_inj ht' hs' ht hs h)
    rw [Maps.atKey_put_other hne, h2 t' s' z ht' hs']
    simp [e]
theorem MapK.entry {w : World} {b n : Nat} {f : Int → List UInt8 → Option Int} (h : MapK w b n f) (hn : n < maxLen) {t : Int} {s : List UInt8} (ht : (Lit.int .i64 t).wf = true) (hs : s.length ≤ maxLen) :
    ∃ (st : Nat) (v0 : Value) (w1 : World), (Instr.mapEntry 82 (.map (some b)) (kv t s)).run Try.prog w = .ok (.tuple #[v0, .int .i64 (st : Int)]) w1 ∧ Upd (fun k => k = b) w w1 ∧ w1.heap.size = w.heap.size ∧
      (Instr.lookup 82 (.map (some b)) (kv t s) false).run Try.prog w1 = .ok (.int .u32 ((f t s).getD 0)) w1 ∧
      ∀ x : Int, ∃ w2, (Instr.entryStore 82 (.map (some b)) (.int .i64 (st : Int)) (.int .u32 x)).run Try.prog w1 = .ok () w2 ∧ Upd (fun k => k = b) w w2 ∧ w2.heap.size = w.heap.size ∧ MapK w2 b (n + 1) (fun t' s' => if t' = t ∧ s' = s then some x else f t' s') := by
  have HM := h
  obtain ⟨D, ⟨es, clock, hb, F, hsz, hD⟩, h2⟩ := h
  have hkey := keyOf_ml t s ht hs
  have hz : ∀ u : World, (zeroValue 101).run Try.prog u = .ok (.int .u32 0) u := fun u => by kernel_rfl
  have hMT := Try.underlying82
  obtain ⟨v0, st, es1, clock1, h3, h4, h5⟩ := WideElems.entry_then_store lawMl hMT hz hb F hkey
  have hlt : b < w.heap.size := (Array.getElem?_eq_some_iff.1 hb).1
  have hset : ∀ o : Obj, Upd (fun k => k = b) w (ChangeMaps.setBlock w b o) ∧ (ChangeMaps.setBlock w b o).heap.size = w.heap.size ∧ (ChangeMaps.setBlock w b o).heap[b]? = some o := fun o => by
    refine ⟨⟨rfl, rfl, rfl, by simp [ChangeMaps.setBlock], fun k hk hs => by simp [ChangeMaps.setBlock, Array.getElem?_setIfInBounds, Ne.symm hs]⟩, by simp [ChangeMaps.setBlock], by simp [ChangeMaps.setBlock, hlt]⟩
  refine ⟨st, v0, _, h3, (hset _).1, (hset _).2.1, ?_, fun x => ?_⟩
  · rcases lawMl.find w hkey es.toList F.keys with ⟨k1, k2⟩ | ⟨j, e0, k1, k2, k3⟩
    · have hnone : f t s = none := by
        have h6 := h2 t s .nil ht hs
        subst hD
        rcases Maps.fit_look false keyedMl hMT (hz w) hb F hkey with ⟨_, _, hat⟩ | ⟨e0, y, he0, hk0, _⟩
        · rw [hat .nil] at h6
          cases hf : f t s with
          | none => rfl
          | some v => rw [hf] at h6; cases h6
        · exact absurd hk0 (k2 e0 he0)
      have r1 : (Instr.mapEntry 82 (.map (some b)) (kv t s)).run Try.prog w = .ok (.tuple #[.int .u32 0, goInt clock]) (ChangeMaps.setBlock w b (.map (es.push ⟨kv t s, .int .u32 0, clock⟩) (clock + 1))) := by
        simp [Instr.mapEntry, run_underlying hMT, MapKept.run_getObj_map hb, lawMl.check w false hkey, k1, hz, MapKept.run_setObj_map _ hb, Result.andThen, ChangeMaps.setBlock]
      have r2 : (Instr.mapUpdate 82 (.map (some b)) (kv t s) (.int .u32 0)).run Try.prog w = .ok () (ChangeMaps.setBlock w b (.map (es.push ⟨kv t s, .int .u32 0, clock⟩) (clock + 1))) := by
        simp [Instr.mapUpdate, run_underlying hMT, MapKept.run_getObj_map hb, lawMl.check w false hkey, k1, MapKept.run_setObj_map _ hb, Result.andThen, ChangeMaps.setBlock]
      have hw : ChangeMaps.setBlock w b (.map es1 clock1) = ChangeMaps.setBlock w b (.map (es.push ⟨kv t s, .int .u32 0, clock⟩) (clock + 1)) := by
        rw [h3] at r1
        injection r1
      rw [hw]
      have := (HM.put hn ht hs 0 r2).look ht hs
      rw [this, hnone]
      simp
    · have r1 : ∃ x, (Instr.mapEntry 82 (.map (some b)) (kv t s)).run Try.prog w = .ok x (ChangeMaps.setBlock w b (.map es clock)) := by
        have hj : es[j]? = some e0 := by simpa using k2
        have hsame : es.modify j (fun e => { e with key := kv t s }) = es := by
          apply Array.ext'
          rw [Array.toList_modify, ChangeMaps.modify_eq_set _ _ _ _ k2]
          have : ({ e0 with key := kv t s } : MapEntry) = e0 := by rw [← k3]
          rw [this]
          exact WideElems.set_self _ _ _ k2
        exact ⟨_, by simp [Instr.mapEntry, run_underlying hMT, MapKept.run_getObj_map hb, lawMl.check w false hkey, k1, hj, k3, lawMl.stays w hkey, hsame, MapKept.run_setObj_map _ hb, Result.andThen, ChangeMaps.setBlock]; rfl⟩
      obtain ⟨x, r1⟩ := r1
      have hw : ChangeMaps.setBlock w b (.map es1 clock1) = ChangeMaps.setBlock w b (.map es clock) := by
        rw [h3] at r1
        injection r1
      rw [hw]
      exact (HM.block (w' := ChangeMaps.setBlock w b (.map es clock)) ((hset _).2.2.trans hb.symm)).look ht hs
  · obtain ⟨es', clock', h6, h7⟩ := h5 _ (.int .u32 x) (hset _).2.2
    have hss : ∀ o o' : Obj, ChangeMaps.setBlock (ChangeMaps.setBlock w b o) b o' = ChangeMaps.setBlock w b o' := fun o o' => by simp [ChangeMaps.setBlock]
    rw [hss] at h6
    exact ⟨_, h6, (hset _).1, (hset _).2.1, HM.put hn ht hs x h7⟩
theorem SlY.alloc8 {α : Type} {Y : Lay α} {w : World} {a : Option Addr} {n c : Nat} {l : List α} (h : SlY Y w a n c l) (o : Obj) : SlY Y (w.alloc o) a n c l := h.later ((Below.refl _ _).alloc (Nat.le_refl _) _)
theorem bel8 {B : Nat} {w w' : World} (h : Below B w w') (hB : B ≤ w.heap.size) (o : Obj) : Below B w (w'.alloc o) := h.alloc (Nat.le_trans hB h.size) o
theorem set3 (w : World) (b : Nat) (x y z : Value) : Upd (fun k => k = b) w (((w.setCell ⟨b, 0, none⟩ x).setCell ⟨b, 1, none⟩ y).setCell ⟨b, 2, none⟩ z) := (((Upd.refl (fun k => k = b) w).setCell (p := ⟨b, 0, none⟩) (.inl rfl) x).setCell (p := ⟨b, 1, none⟩) (.inl rfl) y).setCell (p := ⟨b, 2, none⟩) (.inl rfl) z
theorem incoming_any (x : Ap) (w : World) (h : x.In w) : Calls Try.prog 73 #[x.val] w fun e w' => e = .returned x.pk.val ∧ Below w.heap.size w w' := by
  obtain ⟨f, t, a, c, s⟩ := x
  have hc : ∀ o o', (convert 44 9 (.slice a s.length c)).run Try.prog ((w.alloc o).alloc o') = .ok (.string (bst s)) ((w.alloc o).alloc o') := fun o o' => conv_u ((SlY.alloc8 h _).alloc8 _)
  unfold Ap.val
  dsimp only
  clear h
  go_enter Try.func73, Try.ntmps73
  go_wp2
  refine bodyPost_ret (v := .agg #[.int .i64 t, .string (bst s), .int .i64 f]) (by simp [results, Try.results73, go_sem]) rfl ⟨rfl, ?_⟩
  exact bel8 ((Below.refl _ _).alloc (Nat.le_refl _) _) (Nat.le_refl _) _
theorem isWithin_any (k n : Int) (w : World) : Calls Try.prog 77 #[.int .i64 k, .int .i64 n] w fun e w' => e = .returned (.bool (decide (0 ≤ k) && decide (k < n))) ∧ w' = w := by
  by_cases h : 0 ≤ k
  · have h1 : decide (0 ≤ k) = true := decide_eq_true h
    go_enter Try.func77, Try.ntmps77
    go_wp2
    go_ret
    exact ⟨by simp [h], rfl⟩
  · have h1 : decide (0 ≤ k) = false := decide_eq_false h
    go_enter Try.func77, Try.ntmps77
    go_wp2
    go_ret
    exact ⟨by simp [h], rfl⟩
structure Ap.Out (B : Nat) (w : World) (x : Ap) : Prop where
  own : OwnY yU B w (.slice x.a x.s.length x.c) x.s
  some_ : ∃ g, x.a = some ⟨g, 0, none⟩ ∧ B ≤ g ∧ g < w.heap.size
theorem Ap.Out.sl {B : Nat} {w : World} {x : Ap} (h : x.Out B w) : x.In w := h.own.sl' kU
theorem fl_u : ∀ l : List UInt8, fl yU l = Lib.byteCells l
  | [] => rfl
  | x :: r => by rw [fl, fl_u r]; rfl
theorem copyT (w : World) {ops : Array Oper} {rest : List Oper} {o : Oper} {a : Act} {Q : Exit → Act → World → Prop} (hgd : o.guard = none) (d s : Operand)
    (ho : o.op = .call { callee := .builtin .copy, args := #[d, s], argTypes := #[44, 9] }) (B g n : Nat) (M l : List UInt8)
    (hd : a.eval d = .slice (some ⟨g, 0, none⟩) n n) (hs : a.eval s = .string (bst l)) (hM : OwnY yU B w (.slice (some ⟨g, 0, none⟩) n n) M) (hl : l.length = n)
    (h : ∀ w', OwnY yU B w' (.slice (some ⟨g, 0, none⟩) n n) l → Upd (· = g) w w' → w'.heap.size = w.heap.size → wpList Try.prog ops Q rest (a.put o.dst (goInt n)) w') : wpList Try.prog ops Q (o :: rest) a w := by
  have hMn : M.length = n := (hM.sl' kU).len
  have hsz := bst_size l
  rcases hM with ⟨h0, h1 | ⟨g1, cap, cur, e1, e2, e3, e4, e5, e6, e7⟩⟩
  · have := h1.1; cases this
  · injection e1 with q1 q2 q3
    injection q1 with q1
    cases q1
    subst q3
    have hk1 : yU.k = 1 := rfl
    rw [hk1, Nat.mul_one] at e6
    have hr := Lib.run_copy_row_string (P := Try.prog) w 44 9 o.type 5 g 0 n n (bst l) cur 5 Try.underlying44 (by kernel_rfl) e3 (by omega) (by omega)
    refine wpList_plain hgd fun K' hK' => ?_
    unfold Oper.wp execOp
    simp only [ho, resolve, invoke, builtin, Sem.run_bind, Sem.run_pure, Result.andThen_ok, List.map_toArray, List.map_cons, List.map_nil, hd, hs, hr]
    rw [hsz, hl]
    refine hK' _ _ (h _ ?_ ⟨rfl, rfl, rfl, by simp, fun b hb hs => setRow_other w g b _ hs⟩ (by simp))
    have hdl : (bst l).data.toList = l := by simp [bst]
    have hdr : cur.toList.drop (0 + n) = [] := List.drop_eq_nil_of_le (by simp; omega)
    have hbl : (Lib.byteCells l).length = l.length := Lib.byteCells_length l
    refine ⟨by rw [fl_length kU], .inr ⟨g, n, _, ?_, e2, setRow_heap w g cur _ 5 (0, 0) e3, by omega, e5, ?_, ?_⟩⟩
    · rw [hl]
    · rw [hk1, List.size_toArray, hdl, hdr, List.take_zero, List.nil_append, List.append_nil, hbl]; omega
    · rw [hk1, hdl, hdr, List.take_zero, List.nil_append, List.append_nil, fl_u]
      exact List.take_of_length_le (by rw [hbl]; omega)
theorem outgoing_any (p : Pk) (w : World) (hs : p.s.length ≤ 140737488355328) : Calls Try.prog 84 #[p.val] w fun e w' => ∃ x : Ap, e = .returned x.val ∧ x.pk = p ∧ x.Out w.heap.size w' ∧ Below w.heap.size w w' := by
  obtain ⟨t, s, f⟩ := p
  unfold Pk.val
  dsimp only at hs ⊢
  have hz := bst_size s
  go_enter Try.func84, Try.ntmps84
  go_wp2_with (at_make; go_must (refine makeY kU _ rfl (.tmp 7) rfl s.length rfl (by unfold maxLen; omega) (by show s.length * 1 ≤ _; omega) ?_))
  intro w1 o1 b1
  have hz1 : w.heap.size + 2 ≤ w1.heap.size := by have := b1.size; simp at this; omega
  have c0 : w1.cell? ⟨w.heap.size, 0, none⟩ = some (.int .i64 t) := (b1.cell (p := ⟨w.heap.size, 0, none⟩) (by simp; omega)).trans (by go_simp)
  have c1 : w1.cell? ⟨w.heap.size, 1, none⟩ = some (.string (bst s)) := (b1.cell (p := ⟨w.heap.size, 1, none⟩) (by simp; omega)).trans (by go_simp)
  have c2 : w1.cell? ⟨w.heap.size, 2, none⟩ = some (.int .i64 f) := (b1.cell (p := ⟨w.heap.size, 2, none⟩) (by simp; omega)).trans (by go_simp)
  have r0 : w1.cell? ⟨w.heap.size + 1, 0, none⟩ = some (.int .i64 0) := (b1.cell (p := ⟨w.heap.size + 1, 0, none⟩) (by simp)).trans (by go_simp)
  have r1 : w1.cell? ⟨w.heap.size + 1, 1, none⟩ = some (.int .i64 0) := (b1.cell (p := ⟨w.heap.size + 1, 1, none⟩) (by simp)).trans (by go_simp)
  have r2 : w1.cell? ⟨w.heap.size + 1, 2, none⟩ = some (.slice none 0 0) := (b1.cell (p := ⟨w.heap.size + 1, 2, none⟩) (by simp)).trans (by go_simp)
  have t0 : ∀ j, w1.frozen? ⟨w.heap.size + 1, j, none⟩ = false := fun j => (b1.frozen (p := ⟨w.heap.size + 1, j, none⟩) (by simp)).trans (by go_simp)
  have B1 : Below w.heap.size w w1 := (bel8 ((Below.refl _ _).alloc (Nat.le_refl _) _) (Nat.le_refl _) _).trans (b1.mono (by first | omega | (simp; omega)))
  have O1 : OwnY yU w.heap.size w1 (.slice (some ⟨w.heap.size + 1 + 1, 0, none⟩) s.length s.length) (List.replicate s.length yU.z) := by
    have := o1.low (B' := w.heap.size) (by first | omega | (simp; omega))
    simpa using this
  have H1 := hide O1
  clear O1 o1 b1
  go_wp2_with (refine copyT _ rfl (.tmp 9) (.tmp 12) rfl w.heap.size (w.heap.size + 1 + 1) s.length (List.replicate s.length yU.z) s rfl rfl H1.out rfl ?_)
  intro w2 o2 u2 z2
  have n0 : ¬ w.heap.size = w.heap.size + 1 + 1 := by omega
  have n1 : ¬ w.heap.size + 1 = w.heap.size + 1 + 1 := by omega
  have d0 := (u2.cell (p := ⟨w.heap.size, 0, none⟩) (by show w.heap.size < _; omega) n0).trans c0
  have d2 := (u2.cell (p := ⟨w.heap.size, 2, none⟩) (by show w.heap.size < _; omega) n0).trans c2
  have e0 := (u2.cell (p := ⟨w.heap.size + 1, 0, none⟩) (by show w.heap.size + 1 < _; omega) n1).trans r0
  have e1 := (u2.cell (p := ⟨w.heap.size + 1, 1, none⟩) (by show w.heap.size + 1 < _; omega) n1).trans r1
  have e2 := (u2.cell (p := ⟨w.heap.size + 1, 2, none⟩) (by show w.heap.size + 1 < _; omega) n1).trans r2
  have v0 : ∀ j, w2.frozen? ⟨w.heap.size + 1, j, none⟩ = false := fun j => (u2.frozen (p := ⟨w.heap.size + 1, j, none⟩) (by show w.heap.size + 1 < _; omega) n1).trans (t0 j)
  have B2 : Below w.heap.size w w2 := B1.trans (u2.below B1.size (fun k hk => by omega))
  have H2 := hide o2
  have HB := hide B2
  clear c0 c1 c2 r0 r1 r2 t0 H1 B1 u2 o2 B2
  go_wp2
  refine bodyPost_ret (v := .agg #[.int .i64 f, .int .i64 t, .slice (some ⟨w.heap.size + 1 + 1, 0, none⟩) s.length s.length]) (by simp [results, Try.results84, go_sem, e0, e1, e2]) rfl ⟨⟨f, t, some ⟨w.heap.size + 1 + 1, 0, none⟩, s.length, s⟩, rfl, rfl, ?_, ?_⟩
  · have hlt : w.heap.size + 1 + 1 < w2.heap.size := (H2.out.blk _ rfl).2
    refine ⟨H2.out.upd1 (set3 w2 (w.heap.size + 1) _ _ _) (fun g hg hk => ?_), w.heap.size + 1 + 1, rfl, by omega, by (first | omega | (simp; omega))⟩
    have : w.heap.size + 1 + 1 = g := by cases hg; rfl
    omega
  · exact HB.out.trans ((set3 w2 (w.heap.size + 1) _ _ _).below HB.out.size (fun k hk => by omega))
theorem bytes_of (v : World) (l : List UInt8) : ∃ c w', (convert 9 44 (.string (bst l))).run Try.prog v = .ok (.slice (some ⟨v.heap.size, 0, none⟩) l.length c) w' ∧ Below v.heap.size v w' ∧ w'.heap.size = v.heap.size + 1 ∧ l.length ≤ c ∧ (∀ j, j < l.length → w'.cell? ⟨v.heap.size, j, none⟩ = some (.int .u8 ((l.getD j 0).toNat : Int))) ∧ ∀ j, j < l.length → w'.frozen? ⟨v.heap.size, j, none⟩ = false := by
  have hr := Lib.run_convert_string_bytes (P := Try.prog) v 9 44 5 (bst l) Try.underlying9 Try.underlying44 Try.underlying5
  have hz := bst_size l
  rw [hz] at hr
  have hd : (bst l).data.toList = l := by simp [bst]
  have hcap : l.length ≤ grownCap v l.length 0 5 := by
    exact grownCap_ge v l.length 0 5
  have hC : (Lib.bytesCells v 5 (bst l)).size = grownCap v l.length 0 5 := by
    unfold Lib.bytesCells
    simp [bst, ByteArray.size]
    omega
  refine ⟨_, _, hr, ⟨rfl, rfl, rfl, by rw [Lib.bytesWorld_size]; omega, fun k hk => Lib.bytesWorld_at_old v _ _ k hk⟩, Lib.bytesWorld_size _ _ _, hcap, fun j hj => ?_, fun j hj => ?_⟩
  · rw [Lib.bytesWorld_cell v _ _ j (by omega), hd]
  · simp only [World.frozen?, Lib.bytesWorld_at_new, hC]
    have : ¬ grownCap v l.length 0 5 ≤ j := by omega
    simp [this]
theorem u8_xor (a b : UInt8) : bits .xor .u8 (a.toNat : Int) (b.toNat : Int) = ((a ^^^ b).toNat : Int) := by
  rw [u8_xor_nat a.toNat b.toNat a.toNat_lt b.toNat_lt, UInt8.toNat_xor]
theorem turned_any (p : Pk) (at_ : Nat) (mask : UInt8) (w : World) (hl : at_ < p.s.length) (hs : p.s.length ≤ 32768) : Calls Try.prog 80 #[p.val, .int .i64 (at_ : Int), .int .u8 (mask.toNat : Int)] w fun e w' => e = .returned (Pk.val ⟨p.t, p.s.set at_ (p.s[at_] ^^^ mask), p.f⟩) ∧ Below w.heap.size w w' := by
  obtain ⟨t, s, f⟩ := p
  unfold Pk.val
  dsimp only at hs hl ⊢
  have hz := bst_size s
  obtain ⟨c, w1, hcv, b1, z1, hc1, l1, f1⟩ := bytes_of ((w.alloc (.cells #[.int .i64 t, .string (bst s), .int .i64 f] 105)).alloc (.cells #[.int .i64 0, .string ⟨#[]⟩, .int .i64 0] 105)) s
  have ca : w1.cell? ⟨w.heap.size + 1 + 1, at_, none⟩ = some (.int .u8 (s[at_].toNat : Int)) := by
    have := l1 at_ hl
    rw [show s.getD at_ 0 = s[at_] by simp [List.getD, hl]] at this
    simpa using this
  have fa : w1.frozen? ⟨w.heap.size + 1 + 1, at_, none⟩ = false := by simpa using f1 at_ hl
  have hz1 : w1.heap.size = w.heap.size + 1 + 1 + 1 := by simpa using z1
  have c0 : w1.cell? ⟨w.heap.size, 0, none⟩ = some (.int .i64 t) := (b1.cell (p := ⟨w.heap.size, 0, none⟩) (by simp; omega)).trans (by go_simp)
  have c1 : w1.cell? ⟨w.heap.size, 1, none⟩ = some (.string (bst s)) := (b1.cell (p := ⟨w.heap.size, 1, none⟩) (by simp; omega)).trans (by go_simp)
  have c2 : w1.cell? ⟨w.heap.size, 2, none⟩ = some (.int .i64 f) := (b1.cell (p := ⟨w.heap.size, 2, none⟩) (by simp; omega)).trans (by go_simp)
  have t1 : ∀ j, w1.frozen? ⟨w.heap.size, j, none⟩ = false := fun j => (b1.frozen (p := ⟨w.heap.size, j, none⟩) (by simp; omega)).trans (by go_simp)
  have r0 : w1.cell? ⟨w.heap.size + 1, 0, none⟩ = some (.int .i64 0) := (b1.cell (p := ⟨w.heap.size + 1, 0, none⟩) (by simp)).trans (by go_simp)
  have r1 : w1.cell? ⟨w.heap.size + 1, 1, none⟩ = some (.string ⟨#[]⟩) := (b1.cell (p := ⟨w.heap.size + 1, 1, none⟩) (by simp)).trans (by go_simp)
  have r2 : w1.cell? ⟨w.heap.size + 1, 2, none⟩ = some (.int .i64 0) := (b1.cell (p := ⟨w.heap.size + 1, 2, none⟩) (by simp)).trans (by go_simp)
  have t0 : ∀ j, w1.frozen? ⟨w.heap.size + 1, j, none⟩ = false := fun j => (b1.frozen (p := ⟨w.heap.size + 1, j, none⟩) (by simp)).trans (by go_simp)
  have hx := u8_xor s[at_] mask
  have B1 : Below w.heap.size w w1 := (bel8 ((Below.refl _ _).alloc (Nat.le_refl _) _) (Nat.le_refl _) _).trans (b1.mono (by simp; omega))
  have hat : (at_ : Int) < (s.length : Int) := by omega
  have hcv2 : (convert 44 9 (.slice (some ⟨w.heap.size + 1 + 1, 0, none⟩) s.length c)).run Try.prog (w1.setCell ⟨w.heap.size + 1 + 1, at_, none⟩ (.int .u8 ((s[at_].toNat ^^^ mask.toNat : Nat) : Int))) = .ok (.string (bst (s.set at_ (s[at_] ^^^ mask)))) (w1.setCell ⟨w.heap.size + 1 + 1, at_, none⟩ (.int .u8 ((s[at_].toNat ^^^ mask.toNat : Nat) : Int))) := by
    have := run_convert_bytes_back (w1.setCell ⟨w.heap.size + 1 + 1, at_, none⟩ (.int .u8 ((s[at_].toNat ^^^ mask.toNat : Nat) : Int))) 44 9 5 ⟨w.heap.size + 1 + 1, 0, none⟩ c (s.set at_ (s[at_] ^^^ mask)) Try.underlying44 Try.underlying5 Try.underlying9 (fun j hj => by
      rw [Addr.add_lit, Nat.zero_add]
      have hj' : j < s.length := by simpa using hj
      by_cases e : at_ = j
      · subst e
        rw [setc_eq ca]
        simp [UInt8.toNat_xor]
      · have hj2 := l1 j hj'
        rw [show s.getD j 0 = s[j] by simp [List.getD, hj']] at hj2
        rw [setc_ne (by simpa using hj2) (fun h => e h.symm)]
        simp [List.getElem_set_ne e])
    rw [List.length_set] at this
    exact this
  have HB := hide B1
  clear l1 f1 z1 b1 B1 hc1
  go_enter Try.func80, Try.ntmps80
  go_wp2
  refine bodyPost_ret (v := .agg #[.int .i64 t, .string (bst (s.set at_ (s[at_] ^^^ mask))), .int .i64 f]) (by simp [results, Try.results80, go_sem, r0, r1, r2]) rfl ⟨rfl, ?_⟩
  refine ((((HB.out.setCell ?_ _).setCell ?_ _).setCell ?_ _).setCell ?_ _).setCell ?_ _
  all_goals (first | omega | (dsimp only; omega))
end Go.Proofs.Ytjpkdnndhjnkpaa
namespace Go.Proofs.Ytjpkdnndhjnkpaa
open Go.RowKit Go.Maps
theorem quarter_le {need old : Nat} (h : old < need) : Builtin.nextslicecap need old ≤ need + need / 4 + 512 := by
  unfold Builtin.nextslicecap
  split
  · omega
  · split
    · omega
    · rw [growBy_four]
      repeat' split
      all_goals omega
theorem quarter_fits {need old by_ : Nat} (h : old < need) (h1 : by_ ≤ 4096) (hb : need * by_ ≤ 168884986026393) : Builtin.nextslicecap need old * by_ ≤ 281474976710656 := by
  have h2 := Nat.mul_le_mul_right by_ (quarter_le h)
  have h3 : (need / 4 * 4) * by_ ≤ need * by_ := Nat.mul_le_mul_right _ (Nat.div_mul_le_self need 4)
  have h4 : need / 4 * 4 * by_ = 4 * (need / 4 * by_) := by rw [Nat.mul_comm (need / 4) 4, Nat.mul_assoc]
  have h5 : 512 * by_ ≤ 512 * 4096 := Nat.mul_le_mul_left _ h1
  rw [Nat.add_mul, Nat.add_mul] at h2
  omega
variable {α : Type} {Y : Lay α}
theorem grow_row (K : Y.Ok) (w : World) {zv : Value} (hzs : zv.cells.size = Y.k) (B : Nat) (hB : B ≤ w.heap.size) (l news : List α) (m old : Nat) (hn : news.length = m) (h63 : l.length + m ≤ maxLen) :
    OwnY Y B (w.drew.alloc (.cells ((fl Y l).toArray ++ (fl Y news).toArray ++ Builtin.zeroCells zv.cells (grownCap w (l.length + m) old Y.T - (l.length + m))) Y.T)) (.slice (some ⟨w.heap.size, 0, none⟩) (l.length + m) (grownCap w (l.length + m) old Y.T)) (l ++ news) := by
  have hge := grownCap_ge w (l.length + m) old Y.T
  have hcm : grownCap w (l.length + m) old Y.T ≤ maxLen := grownCap_le_maxLen w (l.length + m) old Y.T h63
  have hlen : (fl Y l ++ fl Y news).length = (l.length + m) * Y.k := by rw [List.length_append, fl_length K, fl_length K, hn, Nat.add_mul]
  refine ⟨by rw [fl_length K], .inr ⟨w.heap.size, _, _, by rw [List.length_append, hn], hB, heap_alloc_new w.drew _, by rw [List.length_append, hn]; exact hge, hcm, ?_, ?_⟩⟩
  · simp only [Array.size_append, List.size_toArray, size_zeroCells, hzs, fl_length K, hn, ← Nat.add_mul]
    congr 1
    omega
  · simp only [Array.toList_append, List.append_assoc]
    rw [List.length_append, hn, fl_append, ← hlen]
    rw [← List.append_assoc]
    exact List.take_left
theorem run_appY2 (K : Y.Ok) (h4 : Y.by_ ≤ 4096) (w : World) (ty : TypeId) (B : Nat) (l : List α) (v : Value) (ad : Option Addr) (m c : Nat) (news : List α) (hh : SlY Y w ad m c news) (hown : OwnY Y B w v l) (hB : B ≤ w.heap.size) (hm : l.length + m ≤ maxLen) (hb : (l.length + m) * Y.by_ ≤ 168884986026393) :
    ∃ v' w', (Builtin.append_ #[Y.ST, Y.ST] ty #[v, .slice ad m c]).run Try.prog w = .ok v' w' ∧ OwnY Y B w' v' (l ++ news) ∧ w.grownBy w' v.ownBlock ∧ (v'.ownBlock = v.ownBlock ∨ ∃ k, v'.ownBlock = some k ∧ w.heap.size ≤ k) := by
  obtain ⟨zv, hinfo, hzc⟩ := K.info
  obtain ⟨i0, hi, hz0, hz1, hz2⟩ := info_parts hinfo
  have hzs : zv.cells.size = Y.k := by rw [hzc, List.size_toArray, K.len]
  have hn := hh.len
  cases ad with
  | none =>
    obtain ⟨rfl, rfl⟩ := hh.nil rfl
    obtain rfl : news = [] := List.eq_nil_of_length_eq_zero hn
    refine ⟨v, w, ?_, by rw [List.append_nil]; exact hown, World.grownBy.refl _ _, .inl rfl⟩
    exact run_append_owned_none (P := Try.prog) (w := w) B Y.ST ty Y.T i0 Y.k K.und hi v l.length (fl Y l) hown
  | some y =>
    have hnews : ∀ j u, (fl Y news)[j]? = some u → w.cell? (y.add j) = some u := fun j u hu => by
      rcases hh.at_ y rfl with e | ⟨q, o, rfl, _, hl⟩
      · subst e; cases hu
      · rw [Addr.add_lit]; exact hl.flat K j u hu
    have hlen : (fl Y news).length = m * i0.size := by rw [fl_length K, hn, hz1]
    have h63 : ((l.length + m : Nat) : Int) ≤ 9223372036854775807 := by unfold maxLen at hm; omega
    rcases hown.2 with ⟨rfl, h0⟩ | ⟨g, cap, cur, rfl, hbg, hg, hnc, hcm, hcs, htake⟩
    · obtain rfl : l = [] := List.eq_nil_of_length_eq_zero h0
      by_cases hm0 : m = 0
      · subst hm0
        obtain rfl : news = [] := List.eq_nil_of_length_eq_zero hn
        obtain ⟨v', w', k1, k2, k3, k4⟩ := run_appY K w ty B [] (.slice none 0 0) (some y) 0 c [] hh hown hB hm (by simp)
        exact ⟨v', w', k1, k2, k3, k4⟩
      · have hr := run_append_nil (P := Try.prog) w Y.ST ty Y.T i0 zv K.und hi hz0 y m c (fl Y news) hlen hnews (by omega) (by simp at h63; exact h63) (by rw [hz2]; simp only [List.length_nil, Nat.zero_add] at hb; omega)
        have hg := grow_row K w hzs B hB [] news m 0 hn hm
        simp only [List.length_nil, Nat.zero_add, List.nil_append, fl, Array.empty_append] at hg
        refine ⟨_, _, hr, hg, ⟨rfl, rfl, rfl, by simp, fun k hk _ => heap_alloc_old w.drew _ hk⟩, .inr ⟨_, rfl, Nat.le_refl _⟩⟩
    · by_cases hroom : l.length + m ≤ cap
      · have hfit : l.length * i0.size + (fl Y news).length ≤ cur.size := by rw [hcs, hz1, hlen, hz1, ← Nat.add_mul]; exact Nat.mul_le_mul_right _ hroom
        have hr := run_append_room (P := Try.prog) w Y.ST ty Y.T i0 K.und hi g l.length cap cur hg y m c (fl Y news) hlen hnews (fl_one K news) hroom hfit
        refine ⟨_, _, hr, ⟨by rw [fl_length K], .inr ⟨g, cap, _, by rw [List.length_append, hn], hbg, setRow_heap w g cur _ Y.T _ hg, by rw [List.length_append, hn]; exact hroom, hcm, ?_, ?_⟩⟩, ⟨rfl, rfl, rfl, by simp, fun k _ hk => setRow_other w g k _ (fun e => hk (by simp [Value.ownBlock, e]))⟩, .inl rfl⟩
        · simp only [List.size_toArray, List.length_append, List.length_take, List.length_drop, Array.length_toList]
          omega
        · have e1 : (fl Y l ++ fl Y news).length = (l ++ news).length * Y.k := by rw [← fl_append, fl_length K]
          rw [hz1, htake, fl_append, ← e1]
          exact List.take_left
      · have holds : ∀ j u, (fl Y l)[j]? = some u → w.cell? ((⟨g, 0, none⟩ : Addr).add j) = some u := World.ownsRow.cells hown (g := g) rfl
        have hr := run_append_grow (P := Try.prog) w Y.ST ty Y.T i0 zv K.und hi hz0 ⟨g, 0, none⟩ l.length cap (fl Y l) (by rw [hz1]; exact fl_length K l) holds y m c (fl Y news) hlen hnews (by omega) (by omega) (quarter_fits (by omega) (by rw [hz2]; exact h4) (by rw [hz2]; exact hb))
        exact ⟨_, _, hr, grow_row K w hzs B hB l news m cap hn hm, ⟨rfl, rfl, rfl, by simp, fun k hk _ => heap_alloc_old w.drew _ hk⟩, .inr ⟨_, rfl, Nat.le_refl _⟩⟩
theorem appY2 (K : Y.Ok) (h4 : Y.by_ ≤ 4096) (w : World) {ops : Array Oper} {rest : List Oper} {o : Oper} {a : Act} {Q : Exit → Act → World → Prop} (hgd : o.guard = none) (s x : Operand)
    (ho : o.op = .call { callee := .builtin .append, args := #[s, x], argTypes := #[Y.ST, Y.ST] }) (B : Nat) (l : List α) (v : Value) (hs : a.eval s = v)
    (ad : Option Addr) (m c : Nat) (hx : a.eval x = .slice ad m c) (news : List α) (hh : SlY Y w ad m c news) (hown : OwnY Y B w v l) (hB : B ≤ w.heap.size) (hm : l.length + m ≤ maxLen) (hb : (l.length + m) * Y.by_ ≤ 168884986026393)
    (hk : ∀ v' w', OwnY Y B w' v' (l ++ news) → w.grownBy w' v.ownBlock → (v'.ownBlock = v.ownBlock ∨ ∃ k, v'.ownBlock = some k ∧ w.heap.size ≤ k) → wpList Try.prog ops Q rest (a.put o.dst v') w') : wpList Try.prog ops Q (o :: rest) a w := by
  refine wpList_plain hgd fun K' hK' => ?_
  obtain ⟨v', w', hr, h2, h3, h4⟩ := run_appY2 K h4 w o.type B l v ad m c news hh hown hB hm hb
  unfold Oper.wp execOp
  simp only [ho, resolve, invoke, builtin, Sem.run_bind, Sem.run_pure, Result.andThen_ok, List.map_toArray, List.map_cons, List.map_nil, hs, hx, hr]
  exact hK' _ _ (hk v' w' h2 h3 h4)
theorem stepY2 (K : Y.Ok) (h4 : Y.by_ ≤ 4096) {ops : Array Oper} {o : Oper} {a : Act} {w : World} {K' : Act → World → Prop} {Q : Exit → Act → World → Prop} {E : Prop} (hg : o.guard = none) (s x : Operand)
    (ho : o.op = .call { callee := .builtin .append, args := #[s, x], argTypes := #[Y.ST, Y.ST] }) (B : Nat) (l : List α) (v : Value) (hs : a.eval s = v)
    (ad : Option Addr) (m c : Nat) (hx : a.eval x = .slice ad m c) (news : List α) (hh : SlY Y w ad m c news) (hown : OwnY Y B w v l) (hB : B ≤ w.heap.size) (hm : l.length + m ≤ maxLen) (hb : (l.length + m) * Y.by_ ≤ 168884986026393)
    (hk : ∀ v' w', OwnY Y B w' v' (l ++ news) → w.grownBy w' v.ownBlock → (v'.ownBlock = v.ownBlock ∨ ∃ k, v'.ownBlock = some k ∧ w.heap.size ≤ k) → K' (a.put o.dst v') w') :
    if Region.wanted o (yielded ops a.tmps) = true then Oper.wp Try.prog o a w K' Q else E := by
  have hw : Region.wanted o (yielded ops a.tmps) = true := by simp [Region.wanted, hg]
  rw [if_pos hw]
  obtain ⟨v', w', hr, h2, h3, h4⟩ := run_appY2 K h4 w o.type B l v ad m c news hh hown hB hm hb
  unfold Oper.wp execOp
  simp only [ho, resolve, invoke, builtin, Sem.run_bind, Sem.run_pure, Result.andThen_ok, List.map_toArray, List.map_cons, List.map_nil, hs, hx, hr]
  exact hk v' w' h2 h3 h4
end Go.Proofs.Ytjpkdnndhjnkpaa
namespace Go.Proofs.Ytjpkdnndhjnkpaa
open Go.RowKit Go.Maps
theorem run_appF {α : Type} {Y : Lay α} (K : Y.Ok) (h4 : Y.by_ ≤ 4096) (w : World) (ty : TypeId) (x : Addr) (L news : List α) (hL : SlY Y w (some x) L.length L.length L) (ad : Option Addr) (m c : Nat) (hh : SlY Y w ad m c news) (hm : 0 < m) (h63 : L.length + m ≤ maxLen) (hb : (L.length + m) * Y.by_ ≤ 168884986026393) :
    ∃ cap w', (Builtin.append_ #[Y.ST, Y.ST] ty #[.slice (some x) L.length L.length, .slice ad m c]).run Try.prog w = .ok (.slice (some ⟨w.heap.size, 0, none⟩) (L.length + m) cap) w' ∧ OwnY Y w.heap.size w' (.slice (some ⟨w.heap.size, 0, none⟩) (L.length + m) cap) (L ++ news) ∧ Below w.heap.size w w' := by
  obtain ⟨zv, hinfo, hzc⟩ := K.info
  obtain ⟨i0, hi, hz0, hz1, hz2⟩ := info_parts hinfo
  have hzs : zv.cells.size = Y.k := by rw [hzc, List.size_toArray, K.len]
  have hn := hh.len
  obtain ⟨q, o, rfl, hq, hl⟩ := hh.place (by intro e; rw [e] at hn; simp at hn; omega)
  have hnews : ∀ j u, (fl Y news)[j]? = some u → w.cell? ((⟨q, o, none⟩ : Addr).add j) = some u := fun j u hu => by rw [Addr.add_lit]; exact hl.flat K j u hu
  have holds : ∀ j u, (fl Y L)[j]? = some u → w.cell? (x.add j) = some u := fun j u hu => by
    rcases hL.at_ x rfl with e | ⟨q, o, rfl, _, hl⟩
    · subst e; cases hu
    · rw [Addr.add_lit]; exact hl.flat K j u hu
  have hr := run_append_grow (P := Try.prog) w Y.ST ty Y.T i0 zv K.und hi hz0 x L.length L.length (fl Y L) (by rw [hz1]; exact fl_length K L) holds ⟨q, o, none⟩ m c (fl Y news) (by rw [hz1, fl_length K, hn]) hnews (by omega) (by unfold maxLen at h63; omega) (quarter_fits (by omega) (by rw [hz2]; exact h4) (by rw [hz2]; exact hb))
  refine ⟨_, _, hr, ?_, ((Below.refl _ _).drew).alloc (by simp) _⟩
  have hge := grownCap_ge w (L.length + m) L.length Y.T
  have hcm : grownCap w (L.length + m) L.length Y.T ≤ maxLen := grownCap_le_maxLen w (L.length + m) L.length Y.T h63
  have hlen : (fl Y L ++ fl Y news).length = (L.length + m) * Y.k := by rw [List.length_append, fl_length K, fl_length K, hn, Nat.add_mul]
  refine ⟨by rw [fl_length K], .inr ⟨w.heap.size, _, _, by rw [List.length_append, hn], Nat.le_refl _, heap_alloc_new w.drew _, by rw [List.length_append, hn]; exact hge, hcm, ?_, ?_⟩⟩
  · simp only [Array.size_append, List.size_toArray, size_zeroCells, hzs, fl_length K, hn, ← Nat.add_mul]
    congr 1
    omega
  · simp only [Array.toList_append, List.append_assoc]
    rw [List.length_append, hn, fl_append, ← hlen]
    rw [← List.append_assoc]
    exact List.take_left
def Pl (w : World) (v : Value) (P : List Pk) : Prop := OwnY yP 0 w v P ∨ ∃ x, v = .slice (some x) P.length P.length ∧ SlY yP w (some x) P.length P.length P
theorem Pl.sl {w : World} {v : Value} {P : List Pk} (h : Pl w v P) : ∃ a c, v = .slice a P.length c ∧ SlY yP w a P.length c P := by
  rcases h with h | ⟨x, rfl, h⟩
  · obtain ⟨a, c, rfl, h1, _⟩ := h.sl kP
    exact ⟨a, c, rfl, h1⟩
  · exact ⟨some x, P.length, rfl, h⟩
theorem Pl.upd {S : Nat → Prop} {w w' : World} {v : Value} {P : List Pk} (h : Pl w v P) (u : Upd S w w') (hs : ∀ k, v.ownBlock = some k → ¬ S k) : Pl w' v P := by
  rcases h with h | ⟨x, rfl, h⟩
  · exact .inl (h.upd1 u hs)
  · refine .inr ⟨x, rfl, h.upd u (fun y hy _ => ?_)⟩
    cases hy
    exact hs x.block rfl
theorem run_appPl (w : World) (ty : TypeId) (v : Value) (P : List Pk) (hP : Pl w v P) (ad : Option Addr) (m c : Nat) (news : List Pk) (hh : SlY yP w ad m c news) (h63 : (P.length + m) * 32 ≤ 168884986026393) :
    ∃ v' w', (Builtin.append_ #[81, 81] ty #[v, .slice ad m c]).run Try.prog w = .ok v' w' ∧ Pl w' v' (P ++ news) ∧ w.grownBy w' v.ownBlock ∧ (v'.ownBlock = v.ownBlock ∨ ∃ k, v'.ownBlock = some k ∧ w.heap.size ≤ k) := by
  rcases hP with h | ⟨x, rfl, h⟩
  · obtain ⟨v', w', h1, h2, h3, h4⟩ := run_appY2 kP (by decide) w ty 0 P v ad m c news hh h (Nat.zero_le _) (by unfold maxLen; omega) h63
    exact ⟨v', w', h1, .inl h2, h3, h4⟩
  · by_cases hm : m = 0
    · subst hm
      obtain rfl := List.eq_nil_of_length_eq_zero hh.len
      refine ⟨.slice (some x) P.length P.length, w, ?_, .inr ⟨x, by rw [List.append_nil], by rw [List.append_nil]; exact h⟩, World.grownBy.refl _ _, .inl rfl⟩
      obtain ⟨zv, hinfo, hzc⟩ := kP.info
      obtain ⟨i0, hi, hz0, hz1, hz2⟩ := info_parts hinfo
      have hi' : Try.prog.info? 105 = some i0 := hi
      cases ad with
      | none => simp [Builtin.append_, run_underlying Try.underlying81, sizeOf, typeInfo, hi', Builtin.lenOf, Builtin.firstCells, loadCells, loadCellsFrom, storeCells]
      | some y => simp [Builtin.append_, run_underlying Try.underlying81, sizeOf, typeInfo, hi', Builtin.lenOf, Builtin.firstCells, loadCells, loadCellsFrom, storeCells]
    · obtain ⟨cap, w', h1, h2, h3⟩ := run_appF kP (by decide) w ty x P news h ad m c hh (by omega) (by unfold maxLen; omega) h63
      exact ⟨_, w', h1, .inl (h2.low (Nat.zero_le _)), ⟨h3.os, h3.tape, h3.output, h3.size, fun k hk _ => h3.block k hk⟩, .inr ⟨_, rfl, Nat.le_refl _⟩⟩
end Go.Proofs.Ytjpkdnndhjnkpaa
namespace Go.Proofs.Ytjpkdnndhjnkpaa
open Go.RowKit Go.Maps
def MapN (w : World) (b n : Nat) (M : Int → List UInt8 → Nat) : Prop := ∃ f, MapK w b n f ∧ ∀ t s, (f t s).getD 0 = (M t s : Int) ∧ M t s < 4294967296
theorem MapN.lt {w : World} {b n : Nat} {M : Int → List UInt8 → Nat} (h : MapN w b n M) : b < w.heap.size := by obtain ⟨f, h1, _⟩ := h; exact h1.lt
theorem MapN.upd {S : Nat → Prop} {w w' : World} {b n : Nat} {M : Int → List UInt8 → Nat} (h : MapN w b n M) (u : Upd S w w') (hs : ¬ S b) : MapN w' b n M := by
  obtain ⟨f, h1, h2⟩ := h
  exact ⟨f, h1.upd u hs, h2⟩
theorem MapN.look {w : World} {b n : Nat} {M : Int → List UInt8 → Nat} (h : MapN w b n M) {t : Int} {s : List UInt8} (ht : (Lit.int .i64 t).wf = true) (hs : s.length ≤ maxLen) :
    (Instr.lookup 82 (.map (some b)) (kv t s) false).run Try.prog w = .ok (.int .u32 (M t s : Int)) w := by
  obtain ⟨f, h1, h2⟩ := h
  rw [h1.look ht hs, (h2 t s).1]
structure Net (w : World) (b : Nat) (nn cc : Int) (pv rv : Value) (mb n : Nat) (P R : List Pk) (M : Int → List UInt8 → Nat) : Prop where
  lt : b < w.heap.size
  c0 : w.cell? ⟨b, 0, none⟩ = some (.int .i64 nn)
  c1 : w.cell? ⟨b, 1, none⟩ = some (.int .i64 cc)
  c2 : w.cell? ⟨b, 2, none⟩ = some pv
  c3 : w.cell? ⟨b, 3, none⟩ = some rv
  c4 : w.cell? ⟨b, 4, none⟩ = some (.map (some mb))
  fr : ∀ i, w.frozen? ⟨b, i, none⟩ = false
  pl : Pl w pv P
  rc : OwnY yP 0 w rv R
  mp : MapN w mb n M
  hn : n ≤ R.length
  mne : mb ≠ b
  pne : pv.ownBlock ≠ some b
  rne : rv.ownBlock ≠ some b
  pm : pv.ownBlock ≠ some mb
  rm : rv.ownBlock ≠ some mb
  pr : ∀ g, pv.ownBlock = some g → rv.ownBlock ≠ some g
  plt : ∀ g, pv.ownBlock = some g → g < w.heap.size
  sp : ∀ p ∈ P, p.s.length ≤ 32768
  sr : ∀ p ∈ R, p.s.length ≤ 32768
variable {w w' : World} {b mb n : Nat} {nn cc : Int} {pv rv : Value} {P R : List Pk} {M : Int → List UInt8 → Nat}
theorem Net.upd {S : Nat → Prop} (h : Net w b nn cc pv rv mb n P R M) (u : Upd S w w') (hb : ¬ S b) (hm : ¬ S mb) (hp : ∀ k, pv.ownBlock = some k → ¬ S k) (hr : ∀ k, rv.ownBlock = some k → ¬ S k) : Net w' b nn cc pv rv mb n P R M :=
  ⟨Nat.lt_of_lt_of_le h.lt u.size, (u.cell h.lt hb).trans h.c0, (u.cell h.lt hb).trans h.c1, (u.cell h.lt hb).trans h.c2, (u.cell h.lt hb).trans h.c3, (u.cell h.lt hb).trans h.c4, fun i => (u.frozen (p := ⟨b, i, none⟩) h.lt hb).trans (h.fr i), h.pl.upd u hp, h.rc.upd1 u hr, h.mp.upd u hm, h.hn, h.mne, h.pne, h.rne, h.pm, h.rm, h.pr, fun g hg => Nat.lt_of_lt_of_le (h.plt g hg) u.size, h.sp, h.sr⟩
theorem Net.later (h : Net w b nn cc pv rv mb n P R M) (hb : Below w.heap.size w w') : Net w' b nn cc pv rv mb n P R M := h.upd (S := fun _ => False) (Upd.of_below hb) id id (fun _ _ => id) (fun _ _ => id)
def adr (nn cc a : Int) : Bool := (decide (0 ≤ a) && decide (a < nn)) || (decide (7 ≤ a) && decide (a - 7 < cc))
theorem isAddress_any (a : Int) (h : Net w b nn cc pv rv mb n P R M) (ha : (Lit.int .i64 a).wf = true) : Calls Try.prog 75 #[.pointer (some ⟨b, 0, none⟩), .int .i64 a] w fun e w' => e = .returned (.bool (adr nn cc a)) ∧ w' = w := by
  have h0 := h.c0
  have h1 := h.c1
  have hw := i64_wf ha
  clear h
  unfold adr
  cases e1 : (decide (0 ≤ a) && decide (a < nn)) with
  | true =>
    have HC := hide (isWithin_any a nn w)
    rw [e1] at HC
    go_enter Try.func75, Try.ntmps75
    go_wp2_with fail
    refine HC.out.mono ?_
    rintro e w1 ⟨rfl, rfl⟩
    go_wp2
    go_ret
    exact ⟨rfl, rfl⟩
  | false =>
    have HC := hide (isWithin_any a nn w)
    rw [e1] at HC
    by_cases h7 : 7 ≤ a
    · have e7 : decide (7 ≤ a) = true := decide_eq_true h7
      have hwr : IntKind.i64.wrap (a - 7) = a - 7 := by rw [IntKind.wrap_i64]; omega
      clear e1
      go_enter Try.func75, Try.ntmps75
      go_wp2_with fail
      refine HC.out.mono ?_
      rintro e w1 ⟨rfl, rfl⟩
      go_wp2
      go_ret
      exact ⟨by simp [h7], rfl⟩
    · have e7 : decide (7 ≤ a) = false := decide_eq_false h7
      clear e1
      go_enter Try.func75, Try.ntmps75
      go_wp2_with fail
      refine HC.out.mono ?_
      rintro e w1 ⟨rfl, rfl⟩
      go_wp2
      go_ret
      exact ⟨by simp; omega, rfl⟩
theorem stepPl {ops : Array Oper} {o : Oper} {a : Act} {w : World} {K' : Act → World → Prop} {Q : Exit → Act → World → Prop} {E : Prop} (hg : o.guard = none) (s x : Operand)
    (ho : o.op = .call { callee := .builtin .append, args := #[s, x], argTypes := #[81, 81] }) (v : Value) (hs : a.eval s = v) (ad : Option Addr) (m c : Nat) (hx : a.eval x = .slice ad m c) (P news : List Pk) (hP : Pl w v P) (hh : SlY yP w ad m c news) (hb : (P.length + m) * 32 ≤ 168884986026393)
    (hk : ∀ v' w', Pl w' v' (P ++ news) → w.grownBy w' v.ownBlock → (v'.ownBlock = v.ownBlock ∨ ∃ k, v'.ownBlock = some k ∧ w.heap.size ≤ k) → K' (a.put o.dst v') w') :
    if Region.wanted o (yielded ops a.tmps) = true then Oper.wp Try.prog o a w K' Q else E := by
  have hw : Region.wanted o (yielded ops a.tmps) = true := by simp [Region.wanted, hg]
  rw [if_pos hw]
  obtain ⟨v', w', hr, h2, h3, h4⟩ := run_appPl w o.type v P hP ad m c news hh hb
  unfold Oper.wp execOp
  simp only [ho, resolve, invoke, builtin, Sem.run_bind, Sem.run_pure, Result.andThen_ok, List.map_toArray, List.map_cons, List.map_nil, hs, hx, hr]
  exact hk v' w' h2 h3 h4
theorem one_pk (w : World) (p : Pk) : SlY yP (w.alloc (.cells #[.int .i64 p.t, .string (bst p.s), .int .i64 p.f] 105)) (some ⟨w.heap.size, 0, none⟩) 1 1 [p] :=
  ⟨rfl, Nat.le_refl _, by unfold maxLen; omega, (fun e => by cases e), fun x hx => .inr ⟨w.heap.size, 0, by cases hx; rfl, by simp, fun i y hy j u hu => by
    match i, hy with
    | 0, hy =>
      simp at hy
      subst hy
      have hj : j < 3 := (List.getElem?_eq_some_iff.1 hu).1
      match j, hj with
      | 0, _ => simp [yP] at hu; subst hu; simp
      | 1, _ => simp [yP] at hu; subst hu; simp
      | 2, _ => simp [yP] at hu; subst hu; simp
    | i + 1, hy => simp at hy⟩⟩
theorem Net.setPool {w3 : World} {pv' : Value} {P' : List Pk} (h : Net w b nn cc pv rv mb n P R M) (u : Upd (fun k => pv.ownBlock = some k) w w3) (hP : Pl w3 pv' P') (hnew : pv'.ownBlock = pv.ownBlock ∨ pv'.ownBlock = none ∨ ∃ k, pv'.ownBlock = some k ∧ w.heap.size ≤ k) (hlt : ∀ g, pv'.ownBlock = some g → g < w3.heap.size) (hs : ∀ p ∈ P', p.s.length ≤ 32768) :
    Net (w3.setCell ⟨b, 2, none⟩ pv') b nn cc pv' rv mb n P' R M ∧ Upd (fun k => k = b ∨ pv.ownBlock = some k) w (w3.setCell ⟨b, 2, none⟩ pv') := by
  have hb3 : b < w3.heap.size := Nat.lt_of_lt_of_le h.lt u.size
  have nb : ¬ pv.ownBlock = some b := h.pne
  have nm : ¬ pv.ownBlock = some mb := h.pm
  have k2 := (u.cell (p := ⟨b, 2, none⟩) h.lt nb).trans h.c2
  have uo : Upd (fun k => k = b) w3 (w3.setCell ⟨b, 2, none⟩ pv') := (Upd.refl (fun k => k = b) w3).setCell (p := ⟨b, 2, none⟩) (.inl rfl) pv'
  have rl : ∀ g, rv.ownBlock = some g → g < w.heap.size := fun g hg => (h.rc.blk g hg).2
  have pne' : pv'.ownBlock ≠ some b := by
    rcases hnew with e | e | ⟨k, e, hk⟩
    · rw [e]; exact h.pne
    · rw [e]; simp
    · rw [e]; intro e2; have := h.lt; cases e2; omega
  have pm' : pv'.ownBlock ≠ some mb := by
    rcases hnew with e | e | ⟨k, e, hk⟩
    · rw [e]; exact h.pm
    · rw [e]; simp
    · rw [e]; intro e2; have := h.mp.lt; cases e2; omega
  have pr' : ∀ g, pv'.ownBlock = some g → rv.ownBlock ≠ some g := by
    intro g hg hr
    rcases hnew with e | e | ⟨k, e, hk⟩
    · exact h.pr g (e ▸ hg) hr
    · rw [e] at hg; cases hg
    · have := rl g hr; rw [e] at hg; cases hg; omega
  refine ⟨⟨by simpa using hb3, setc_ne ((u.cell (p := ⟨b, 0, none⟩) h.lt nb).trans h.c0) (by decide), setc_ne ((u.cell (p := ⟨b, 1, none⟩) h.lt nb).trans h.c1) (by decide), setc_eq k2, setc_ne ((u.cell (p := ⟨b, 3, none⟩) h.lt nb).trans h.c3) (by decide), setc_ne ((u.cell (p := ⟨b, 4, none⟩) h.lt nb).trans h.c4) (by decide), fun i => setf ((u.frozen (p := ⟨b, i, none⟩) h.lt nb).trans (h.fr i)), hP.upd uo (fun k hk e => pne' (e ▸ hk)), (h.rc.upd1 u (fun g hg hp => h.pr g hp hg)).upd1 uo (fun g hg e => h.rne (e ▸ hg)), (h.mp.upd u nm).upd uo h.mne, h.hn, h.mne, pne', h.rne, pm', h.rm, pr', fun g hg => by simpa using hlt g hg, hs, h.sr⟩, ?_⟩
  exact (u.mono (fun k _ hk => .inr hk)).setCell (p := ⟨b, 2, none⟩) (.inl (.inl rfl)) pv'
theorem Pl.lt {w : World} {v : Value} {P : List Pk} (h : Pl w v P) (hne : P ≠ []) : ∀ g, v.ownBlock = some g → g < w.heap.size := by
  intro g hg
  rcases h with h | ⟨x, rfl, h⟩
  · exact (h.blk g hg).2
  · rcases h.at_ x rfl with e | ⟨q, o, rfl, hq, _⟩
    · exact absurd e hne
    · cases hg; exact hq
set_option maxHeartbeats 1000000 in
theorem lay_any (p : Pk) (h : Net w b nn cc pv rv mb n P R M) (hs : p.s.length ≤ 32768) (hl : (P.length + 1) * 32 ≤ 168884986026393) : Calls Try.prog 78 #[.pointer (some ⟨b, 0, none⟩), p.val] w fun e w' => e = .returned (.tuple #[]) ∧ ∃ pv', Net w' b nn cc pv' rv mb n (P ++ [p]) R M ∧ Upd (fun k => k = b ∨ pv.ownBlock = some k) w w' ∧ (pv'.ownBlock = pv.ownBlock ∨ ∃ k, pv'.ownBlock = some k ∧ w.heap.size ≤ k) := by
  have HN := hide h
  have h2 := h.c2
  have hlt := h.lt
  have nb : ¬ b = w.heap.size := by omega
  have hfr := h.fr 2
  obtain ⟨a, c, hpv, hsl⟩ := h.pl.sl
  have HQ := hide h.pl
  clear h hsl
  unfold Pk.val
  subst hpv
  have y2 : ∀ o o', ((w.alloc o).alloc o').cell? ⟨b, 2, none⟩ = some (.slice a P.length c) := fun o o' => (World.cell?_alloc_past _ _ _ (by simp; omega)).trans ((World.cell?_alloc_past _ _ _ hlt).trans h2)
  have UA : ∀ o o', Hid (Below w.heap.size w ((w.alloc o).alloc o').drew) := fun o o' => (bel8 ((Below.refl _ _).alloc (Nat.le_refl _) o) (Nat.le_refl _) o').drew
  have SB : ∀ o, Hid (SlY yP ((w.alloc o).alloc (.cells #[.int .i64 p.t, .string (bst p.s), .int .i64 p.f] 105)).drew (some ⟨w.heap.size + 1, 0, none⟩) 1 1 [p]) := fun o => by
    have h1 := (one_pk (w.alloc o) p).later (Below.refl _ _).drew
    simp only [World.size_alloc] at h1
    exact h1
  go_enter Try.func78, Try.ntmps78
  go_wp2_with fail
  go_region_law (refine stepPl rfl (.tmp 8) (.tmp 10) rfl (.slice a P.length c) rfl (some ⟨w.heap.size + 1, 0, none⟩) 1 1 rfl P [p] (HQ.out.upd (Upd.of_below (UA _ _).out (S := fun _ => False)) (fun _ _ => id)) (SB _).out hl ?_; intro v1 w1 k1 g1 n1; have q2 := gcell g1 (y2 _ _) (fun e => HN.out.pne e); have qf := gfroz g1 (b := b) (i := 2) (by simp; omega) (((UA _ _).out.frozen (p := ⟨b, 2, none⟩) hlt).trans hfr) (fun e => HN.out.pne e); obtain ⟨va, vc, hv1, _⟩ := k1.sl; subst hv1)
  all_goals
    have hA := (UA (.cells #[.int .i64 p.t, .string (bst p.s), .int .i64 p.f] 105) (.cells #[.int .i64 p.t, .string (bst p.s), .int .i64 p.f] 105)).out
    have u1 : Upd (fun k => (Value.slice a P.length c).ownBlock = some k) w w1 := (Upd.of_below hA).trans (gupd g1 (fun k e => e))
    have n2 : (Value.slice va (P ++ [p]).length vc).ownBlock = (Value.slice a P.length c).ownBlock ∨ ∃ k, (Value.slice va (P ++ [p]).length vc).ownBlock = some k ∧ w.heap.size ≤ k := n1.imp id (fun ⟨k, e1, e2⟩ => ⟨k, e1, Nat.le_trans hA.size e2⟩)
    obtain ⟨N1, U1⟩ := HN.out.setPool u1 k1 (n2.imp id .inr) (k1.lt (by simp)) (fun q hq => by
      rcases List.mem_append.1 hq with hq | hq
      · exact HN.out.sp q hq
      · rw [List.mem_singleton.1 hq]; exact hs)
    rw [List.length_append] at N1 U1 n2
    simp only [List.length_cons, List.length_nil, Nat.zero_add] at N1 U1 n2
    have H1 := hide N1
    have H2 := hide U1
    have H3 := hide n2
    clear N1 U1 n2 u1 hA g1 k1 n1 q2 qf y2 UA SB h2 HQ HN
    go_wp2
    go_end0
    exact ⟨rfl, _, H1.out, H2.out, H3.out⟩
end Go.Proofs.Ytjpkdnndhjnkpaa
