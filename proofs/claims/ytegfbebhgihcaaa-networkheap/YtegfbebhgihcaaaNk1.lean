import Derived.Test.YtegfbebhgihcaaaKa
import Derived.Maps.OwnSet
import Derived.Maps.Views
import Derived.DeepKeys4
import Derived.WideKeyEntry
import Derived.Laws.IdiomStrings
import Derived.Lib.LazyBuf
namespace Go.Proofs.Ytegfbebhgihcaaa
open Go.RowKit Go.Maps
set_option linter.unusedVariables false
set_option linter.unusedSimpArgs false

/-- A text of bytes. -/
def bst (l : List UInt8) : ByteArray := ⟨l.toArray⟩
theorem bst_size (l : List UInt8) : (bst l).size = l.length := by
  show l.toArray.size = _
  simp
/-- A packet as the program keeps it: to, text, from. -/
structure Pk where
  t : Int
  s : List UInt8
  f : Int
def Pk.val (p : Pk) : Value := .agg #[.int .i64 p.t, .string (bst p.s), .int .i64 p.f]
def yP : Lay Pk := ⟨105, 81, 3, 32, fun x => [.int .i64 x.t, .string (bst x.s), .int .i64 x.f], ⟨0, [], 0⟩⟩
theorem kP : yP.Ok := ⟨by decide, fun x => rfl, fun x u h => by
    simp [yP] at h
    rcases h with rfl | rfl | rfl <;> rfl, Try.underlying81, ⟨.agg #[.int .i64 0, .string ByteArray.empty, .int .i64 0], by kernel_rfl, rfl⟩⟩
/-- Bytes. -/
def yU : Lay UInt8 := ⟨5, 44, 1, 1, fun x => [.int .u8 (x.toNat : Int)], 0⟩
theorem kU : yU.Ok := ⟨by decide, fun x => rfl, fun x u h => by
    simp [yU] at h
    rw [h]; rfl, Try.underlying44, ⟨.int .u8 0, by kernel_rfl, rfl⟩⟩
/-- A packet as it goes in and out: its bytes lie in memory. -/
structure Ap where
  f : Int
  t : Int
  a : Option Addr
  c : Nat
  s : List UInt8
def Ap.val (x : Ap) : Value := .agg #[.int .i64 x.f, .int .i64 x.t, .slice x.a x.s.length x.c]
def Ap.pk (x : Ap) : Pk := ⟨x.t, x.s, x.f⟩
def Ap.In (w : World) (x : Ap) : Prop := SlY yU w x.a x.s.length x.c x.s
def yA : Lay Ap := ⟨46, 60, 3, 40, fun x => [.int .i64 x.f, .int .i64 x.t, .slice x.a x.s.length x.c], ⟨0, 0, none, 0, []⟩⟩
theorem kA : yA.Ok := ⟨by decide, fun x => rfl, fun x u h => by
    simp [yA] at h
    rcases h with rfl | rfl | rfl <;> rfl, Try.underlying60, ⟨.agg #[.int .i64 0, .int .i64 0, .slice none 0 0], by kernel_rfl, rfl⟩⟩
theorem bytes_in {w : World} {a : Option Addr} {n c : Nat} {l : List UInt8} (h : SlY yU w a n c l) {x : Addr} (hx : a = some x) (j : Nat) (hj : j < l.length) : w.cell? (x.add j) = some (.int .u8 (l[j].toNat : Int)) := by
  rcases h.at_ x hx with e | ⟨q, o, rfl, _, hl⟩
  · subst e; simp at hj
  · have := hl j l[j] (List.getElem?_eq_getElem hj) 0 _ rfl
    rw [Addr.add_lit]
    rw [show o + j * yU.k + 0 = o + j from congrArg (o + ·) (Nat.mul_one j)] at this
    exact this
/-- 'string(b)'. -/
theorem conv_u {w : World} {a : Option Addr} {n c : Nat} {l : List UInt8} (h : SlY yU w a n c l) : (convert 44 9 (.slice a n c)).run Try.prog w = .ok (.string (bst l)) w := by
  obtain rfl := h.len
  cases a with
  | none =>
    obtain ⟨h1, h2⟩ := h.nil rfl
    obtain rfl := List.eq_nil_of_length_eq_zero h1
    rw [run_convert_bytes_string w 44 9 5 none _ c Try.underlying44 Try.underlying5 Try.underlying9]
    rfl
  | some x => exact run_convert_bytes_back w 44 9 5 x c l Try.underlying44 Try.underlying5 Try.underlying9 (fun j hj => bytes_in h rfl j hj)
theorem bst_eq (l m : List UInt8) : ((bst l).toList == (bst m).toList) = decide (l = m) := by
  rw [ByteArray.toList_eq, ByteArray.toList_eq]
  show (l.toArray.toList == m.toArray.toList) = _
  simp only [List.toList_toArray]
  by_cases h : l = m
  · simp [h]
  · rw [decide_eq_false h, beq_eq_false_iff_ne]
    exact h
/-! ### The map of what was sent -/
abbrev Ml : TypeId := 103
def kv (t : Int) (s : List UInt8) : Value := .agg #[.int .i64 t, .string (bst s)]
def kl (t : Int) (s : List UInt8) : Lit := .string (keyBytes [.int .i64 t, .string s])
theorem laidOut : laidOutB Try.prog = true := by kernel_rfl
theorem rowMl : Ml < Try.prog.types.size := of_decide_eq_true (by kernel_rfl)
theorem wideMl : (match Try.prog.underlying Ml with | some (.array _ _) | some (.struct _) => true | _ => false) = true := by kernel_rfl
set_option maxRecDepth 100000 in
theorem lawMl : WideMaps.KeyLaw Try.prog Ml := deep_law_laid laidOut (m := 2) (by omega) rowMl (by kernel_rfl) wideMl
theorem keyedMl : Keyed Try.prog Ml := Keyed.of_law lawMl
theorem cellsMl : Try.prog.cellsOf Ml = 2 := by kernel_rfl
theorem keyTypeMl : Try.prog.keyType Ml = true := by kernel_rfl
set_option maxRecDepth 100000 in
theorem keyOf_ml (t : Int) (s : List UInt8) (ht : (Lit.int .i64 t).wf = true) (hs : s.length ≤ maxLen) : keyOf Try.prog Ml (kv t s) = some (kl t s) := by
  have hf : (kv t s).formed Try.prog Ml = true := by
    unfold kv
    simp [Value.formed, Try.underlying103, cellsMl]
  have hl : Try.prog.keyLits (Try.prog.types.size + 1) Ml (kv t s).cells.toList = some [.int .i64 t, .string s] := by
    obtain ⟨m, hm⟩ : ∃ m, Try.prog.types.size = m + 1 := ⟨Try.prog.types.size - 1, (Nat.succ_pred_eq_of_pos (Nat.lt_of_le_of_lt (Nat.zero_le _) rowMl)).symm⟩
    rw [hm]
    have hc3 : Try.prog.cellsOf 3 = 1 := by kernel_rfl
    have hc9 : Try.prog.cellsOf 9 = 1 := by kernel_rfl
    have hsz : (bst s).size ≤ maxLen := by rw [bst_size]; exact hs
    have hsd : (bst s).data.toList = s := by simp [bst]
    simp [Program.keyLits, Try.underlying103, kv, Value.cells, cellsMl, Try.underlying3, Try.underlying9, hc3, hc9, ht, hsz, hsd]
  have hu : ∃ fs, Try.prog.underlying Ml = some (.struct fs) := ⟨_, Try.underlying103⟩
  obtain ⟨fs, hu⟩ := hu
  simp only [keyOf, hu, keyTypeMl, hf, Bool.and_self, if_true, hl, Option.map_some]
  rfl
theorem kl_inj {t t' : Int} {s s' : List UInt8} (ht : (Lit.int .i64 t).wf = true) (hs : s.length ≤ maxLen) (ht' : (Lit.int .i64 t').wf = true) (hs' : s'.length ≤ maxLen) (h : kl t s = kl t' s') : t = t' ∧ s = s' := by
  have := lawMl.inj (keyOf_ml t s ht hs) (h ▸ keyOf_ml t' s' ht' hs')
  unfold kv bst at this
  simpa using this
/-- The map at block b: which number each mail has. -/
def MapK (w : World) (b n : Nat) (f : Int → List UInt8 → Option Int) : Prop := ∃ D : DataW Value, w.ownsMap Try.prog Ml RV b n D ∧ ∀ t s z, (Lit.int .i64 t).wf = true → s.length ≤ maxLen → D.atKey (kl t s) z = match f t s with | some v => .held (.int .u32 v) | none => z
theorem MapK.lt {w : World} {b n : Nat} {f : Int → List UInt8 → Option Int} (h : MapK w b n f) : b < w.heap.size := by obtain ⟨D, h1, _⟩ := h; exact h1.lt
theorem MapK.made (w : World) : MapK (w.alloc (.map #[] 0)) w.heap.size 0 (fun _ _ => none) := ⟨_, World.ownsMap_made w Try.prog Ml RV, fun t s z _ _ => rfl⟩
theorem MapK.block {w w' : World} {b n : Nat} {f : Int → List UInt8 → Option Int} (h : MapK w b n f) (e : w'.heap[b]? = w.heap[b]?) : MapK w' b n f := by
  obtain ⟨D, ⟨es, clock, hb, F, hs, hD⟩, h2⟩ := h
  exact ⟨D, ⟨es, clock, e.trans hb, F, hs, hD⟩, h2⟩
theorem MapK.upd {S : Nat → Prop} {w w' : World} {b n : Nat} {f : Int → List UInt8 → Option Int} (h : MapK w b n f) (u : Upd S w w') (hs : ¬ S b) : MapK w' b n f := h.block (u.block b h.lt hs)
theorem MapK.isMap {w : World} {b n : Nat} {f : Int → List UInt8 → Option Int} (h : MapK w b n f) : ∃ es c, w.heap[b]? = some (.map es c) := by
  obtain ⟨D, ⟨es, clock, hb, _⟩, _⟩ := h
  exact ⟨es, clock, hb⟩
/-- 'm[k]'. -/
theorem MapK.look {w : World} {b n : Nat} {f : Int → List UInt8 → Option Int} (h : MapK w b n f) {t : Int} {s : List UInt8} (ht : (Lit.int .i64 t).wf = true) (hs : s.length ≤ maxLen) :
    (Instr.lookup 82 (.map (some b)) (kv t s) false).run Try.prog w = .ok (.int .u32 ((f t s).getD 0)) w := by
  obtain ⟨D, ⟨es, clock, hb, F, hsz, hD⟩, h2⟩ := h
  have hz : (zeroValue 101).run Try.prog w = .ok (.int .u32 0) w := by kernel_rfl
  have h3 := h2 t s
  subst hD
  rcases Maps.fit_look false keyedMl Try.underlying82 hz hb F (keyOf_ml t s ht hs) with ⟨hrun, _, hat⟩ | ⟨e0, y, _, _, hrun, hRv, hat, _⟩
  · have : f t s = none := by
      cases hf : f t s with
      | none => rfl
      | some v =>
        have h4 := h3 .nil ht hs
        rw [hat .nil, hf] at h4
        cases h4
    rw [hrun, this]
    rfl
  · have : ∃ v, f t s = some v ∧ e0.val = .int .u32 v := by
      have h4 := h3 .nil ht hs
      rw [hat .nil] at h4
      simp [RV] at hRv
      rw [← hRv] at h4
      cases hf : f t s with
      | none => rw [hf] at h4; cases h4
      | some v => rw [hf] at h4; exact ⟨v, rfl, DataW.held.inj h4⟩
    obtain ⟨v, h5, h6⟩ := this
    rw [hrun, h5, h6]
    rfl
/-- 'm[k]' of a map that is nil. -/
theorem look_nilK (w : World) {t : Int} {s : List UInt8} (ht : (Lit.int .i64 t).wf = true) (hs : s.length ≤ maxLen) :
    (Instr.lookup 82 (.map none) (kv t s) false).run Try.prog w = .ok (.int .u32 0) w := by
  have hz : (zeroValue 101).run Try.prog w = .ok (.int .u32 0) w := by kernel_rfl
  exact Maps.look_nil false keyedMl Try.underlying82 hz (keyOf_ml t s ht hs)
theorem MapK.put {w w' : World} {b n : Nat} {f : Int → List UInt8 → Option Int} (h : MapK w b n f) (hn : n < maxLen) {t : Int} {s : List UInt8} (ht : (Lit.int .i64 t).wf = true) (hs : s.length ≤ maxLen) (x : Int) (hr : (Instr.mapUpdate 82 (.map (some b)) (kv t s) (.int .u32 x)).run Try.prog w = .ok () w') : MapK w' b (n + 1) (fun t' s' => if t' = t ∧ s' = s then some x else f t' s') := by
  obtain ⟨D, h1, h2⟩ := h
  obtain ⟨w2, hr2, h3, _⟩ := h1.store keyedMl Try.underlying82 hn (keyOf_ml t s ht hs) (show RV (.int .u32 x) = some (.held (.int .u32 x), []) from rfl)
  rw [hr] at hr2
  cases hr2
  refine ⟨_, h3, fun t' s' z ht' hs' => ?_⟩
  by_cases e : t' = t ∧ s' = s
  · obtain ⟨rfl, rfl⟩ := e
    rw [Maps.atKey_put_same h1.isMap (by trivial)]
    simp
  · have hne : kl t' s' ≠ kl t s := fun h => e (kl_inj ht' hs' ht hs h)
    rw [Maps.atKey_put_other hne, h2 t' s' z ht' hs']
    simp [e]
/-- What 'm[k] |= x' does in two steps: the entry, then the store. -/
theorem MapK.entry {w : World} {b n : Nat} {f : Int → List UInt8 → Option Int} (h : MapK w b n f) (hn : n < maxLen) {t : Int} {s : List UInt8} (ht : (Lit.int .i64 t).wf = true) (hs : s.length ≤ maxLen) :
    ∃ (st : Nat) (v0 : Value) (w1 : World), (Instr.mapEntry 82 (.map (some b)) (kv t s)).run Try.prog w = .ok (.tuple #[v0, .int .i64 (st : Int)]) w1 ∧ Upd (fun k => k = b) w w1 ∧ w1.heap.size = w.heap.size ∧
      (Instr.lookup 82 (.map (some b)) (kv t s) false).run Try.prog w1 = .ok (.int .u32 ((f t s).getD 0)) w1 ∧
      ∀ x : Int, ∃ w2, (Instr.entryStore 82 (.map (some b)) (.int .i64 (st : Int)) (.int .u32 x)).run Try.prog w1 = .ok () w2 ∧ Upd (fun k => k = b) w w2 ∧ w2.heap.size = w.heap.size ∧ MapK w2 b (n + 1) (fun t' s' => if t' = t ∧ s' = s then some x else f t' s') := by
  have HM := h
  obtain ⟨D, ⟨es, clock, hb, F, hsz, hD⟩, h2⟩ := h
  have hkey := keyOf_ml t s ht hs
  have hz : ∀ u : World, (zeroValue 101).run Try.prog u = .ok (.int .u32 0) u := fun u => by kernel_rfl
  have hMT := Try.underlying82
  obtain ⟨v0, st, es1, clock1, h3, h4, h5⟩ := WideElems.entry_then_store lawMl hMT hz hb F hkey
  have hlt : b < w.heap.size := (Array.getElem?_eq_some_iff.1 hb).1
  have hset : ∀ o : Obj, Upd (fun k => k = b) w (ChangeMaps.setBlock w b o) ∧ (ChangeMaps.setBlock w b o).heap.size = w.heap.size ∧ (ChangeMaps.setBlock w b o).heap[b]? = some o := fun o => by
    refine ⟨⟨rfl, rfl, rfl, by simp [ChangeMaps.setBlock], fun k hk hs => by simp [ChangeMaps.setBlock, Array.getElem?_setIfInBounds, Ne.symm hs]⟩, by simp [ChangeMaps.setBlock], by simp [ChangeMaps.setBlock, hlt]⟩
  refine ⟨st, v0, _, h3, (hset _).1, (hset _).2.1, ?_, fun x => ?_⟩
  · rcases lawMl.find w hkey es.toList F.keys with ⟨k1, k2⟩ | ⟨j, e0, k1, k2, k3⟩
    · have hnone : f t s = none := by
        have h6 := h2 t s .nil ht hs
        subst hD
        rcases Maps.fit_look false keyedMl hMT (hz w) hb F hkey with ⟨_, _, hat⟩ | ⟨e0, y, he0, hk0, _⟩
        · rw [hat .nil] at h6
          cases hf : f t s with
          | none => rfl
          | some v => rw [hf] at h6; cases h6
        · exact absurd hk0 (k2 e0 he0)
      have r1 : (Instr.mapEntry 82 (.map (some b)) (kv t s)).run Try.prog w = .ok (.tuple #[.int .u32 0, goInt clock]) (ChangeMaps.setBlock w b (.map (es.push ⟨kv t s, .int .u32 0, clock⟩) (clock + 1))) := by
        simp [Instr.mapEntry, run_underlying hMT, MapKept.run_getObj_map hb, lawMl.check w false hkey, k1, hz, MapKept.run_setObj_map _ hb, Result.andThen, ChangeMaps.setBlock]
      have r2 : (Instr.mapUpdate 82 (.map (some b)) (kv t s) (.int .u32 0)).run Try.prog w = .ok () (ChangeMaps.setBlock w b (.map (es.push ⟨kv t s, .int .u32 0, clock⟩) (clock + 1))) := by
        simp [Instr.mapUpdate, run_underlying hMT, MapKept.run_getObj_map hb, lawMl.check w false hkey, k1, MapKept.run_setObj_map _ hb, Result.andThen, ChangeMaps.setBlock]
      have hw : ChangeMaps.setBlock w b (.map es1 clock1) = ChangeMaps.setBlock w b (.map (es.push ⟨kv t s, .int .u32 0, clock⟩) (clock + 1)) := by
        rw [h3] at r1
        injection r1
      rw [hw]
      have := (HM.put hn ht hs 0 r2).look ht hs
      rw [this, hnone]
      simp
    · have r1 : ∃ x, (Instr.mapEntry 82 (.map (some b)) (kv t s)).run Try.prog w = .ok x (ChangeMaps.setBlock w b (.map es clock)) := by
        have hj : es[j]? = some e0 := by simpa using k2
        have hsame : es.modify j (fun e => { e with key := kv t s }) = es := by
          apply Array.ext'
          rw [Array.toList_modify, ChangeMaps.modify_eq_set _ _ _ _ k2]
          have : ({ e0 with key := kv t s } : MapEntry) = e0 := by rw [← k3]
          rw [this]
          exact WideElems.set_self _ _ _ k2
        exact ⟨_, by simp [Instr.mapEntry, run_underlying hMT, MapKept.run_getObj_map hb, lawMl.check w false hkey, k1, hj, k3, lawMl.stays w hkey, hsame, MapKept.run_setObj_map _ hb, Result.andThen, ChangeMaps.setBlock]; rfl⟩
      obtain ⟨x, r1⟩ := r1
      have hw : ChangeMaps.setBlock w b (.map es1 clock1) = ChangeMaps.setBlock w b (.map es clock) := by
        rw [h3] at r1
        injection r1
      rw [hw]
      exact (HM.block (w' := ChangeMaps.setBlock w b (.map es clock)) ((hset _).2.2.trans hb.symm)).look ht hs
  · obtain ⟨es', clock', h6, h7⟩ := h5 _ (.int .u32 x) (hset _).2.2
    have hss : ∀ o o' : Obj, ChangeMaps.setBlock (ChangeMaps.setBlock w b o) b o' = ChangeMaps.setBlock w b o' := fun o o' => by simp [ChangeMaps.setBlock]
    rw [hss] at h6
    exact ⟨_, h6, (hset _).1, (hset _).2.1, HM.put hn ht hs x h7⟩

end Go.Proofs.Ytegfbebhgihcaaa
