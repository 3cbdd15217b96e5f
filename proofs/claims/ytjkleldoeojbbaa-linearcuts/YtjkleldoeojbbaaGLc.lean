import Derived.Test.YtjkleldoeojbbaaLb
import Derived.Laws.StructEq
namespace Go.Proofs.Ytjkleldoeojbbaa
open Go.RowKit Go.Maps
set_option linter.unusedVariables false

theorem new_any (w : World) : Calls Try.prog 78 #[] w fun e w' => e = .returned (.pointer (some ⟨w.heap.size, 0, none⟩)) ∧ Led w' w.heap.size none [] ∧ Upd (fun _ => False) w w' ∧ w'.heap.size = w.heap.size + 1 := by
  go_enter Try.func78, Try.ntmps78
  go_wp2
  go_ret
  refine ⟨rfl, ⟨Ok.nil, by simp, ?_, ?_, ?_, ?_, fun _ => rfl, fun j e => by cases e⟩, (Upd.refl _ w).alloc _, by simp⟩
  all_goals go_simp
  all_goals rfl
theorem isslot_any (s : Int) (w : World) : Calls Try.prog 80 #[.int .i64 s] w fun e w' => e = .returned (.bool (decide (0 ≤ s ∧ s < 1024))) ∧ w' = w := by
  by_cases h1 : 0 ≤ s
  · by_cases h2 : s < 1024
    · go_enter Try.func80, Try.ntmps80
      go_wp2
      go_ret
      exact ⟨by simp [h1, h2], rfl⟩
    · go_enter Try.func80, Try.ntmps80
      go_wp2
      go_ret
      exact ⟨by simp [h2], rfl⟩
  · go_enter Try.func80, Try.ntmps80
    go_wp2
    go_ret
    exact ⟨by simp; omega, rfl⟩
theorem rest_any (k s : Int) (v : ByteArray) (n : Int) (w : World) (hv : v.size ≤ maxLen) : Calls Try.prog 81 #[.agg #[.int .i64 k, .int .i64 s, .string v], .int .i64 n] w fun e w' => e = .returned (.int .i64 (if s ≠ 0 then 41 else if n < v.size then 42 else 0)) ∧ Below w.heap.size w w' := by
  by_cases h1 : s = 0
  · subst h1
    by_cases h2 : n < v.size
    · go_enter Try.func81, Try.ntmps81
      go_wp2
      go_ret
      exact ⟨by simp, (Below.refl _ w).alloc (Nat.le_refl _) _⟩
    · go_enter Try.func81, Try.ntmps81
      go_wp2
      go_ret
      exact ⟨by simp, (Below.refl _ w).alloc (Nat.le_refl _) _⟩
  · go_enter Try.func81, Try.ntmps81
    go_wp2
    go_ret
    exact ⟨by simp, (Below.refl _ w).alloc (Nat.le_refl _) _⟩

set_option maxHeartbeats 1000000 in
theorem check_any (o : Opn) (ho : o.fits) (w : World) : Calls Try.prog 47 #[o.val] w fun e w' => e = .returned (.int .i64 (ck o.k o.s o.v)) ∧ Below w.heap.size w w' := by
  obtain ⟨k, s, v⟩ := o
  obtain ⟨hk, hs, hv⟩ := ho
  dsimp only at hk hs hv
  dsimp only [Opn.val]
  have c1 := fun W => isslot_any s W
  have c2 := fun k s n W => rest_any k s v n W hv
  by_cases k1 : k = 1
  · subst k1
    by_cases h1 : 0 ≤ s ∧ s < 1024
    · have e1 : ck 1 s v = if (0 : Int) ≠ 0 then 41 else if (64 : Int) < v.size then 42 else 0 := by
        unfold ck
        have : ¬ (s < 0 ∨ 1024 ≤ s) := by omega
        simp [this] <;> omega
      have c2 := c2 1 0 64
      rw [← e1] at c2
      clear e1
      generalize ck 1 s v = r at c2 ⊢
      have c1 : ∀ W, Calls Try.prog 80 #[.int .i64 s] W fun e w' => e = .returned (.bool true) ∧ w' = W := fun W => by simpa [h1] using c1 W
      go_enter Try.func47, Try.ntmps47
      go_wp2_with (first | (go_at_call 80; refine (c1 _).mono ?_; rintro e w' ⟨rfl, rfl⟩) | (go_at_call 81; refine (c2 _).mono ?_; rintro e w' ⟨rfl, hb⟩))
      go_ret
      exact ⟨rfl, ((Below.refl w.heap.size w).alloc (Nat.le_refl _) _).trans (hb.mono (by simp))⟩
    · have e1 : ck 1 s v = 41 := by
        unfold ck
        have : s < 0 ∨ 1024 ≤ s := by omega
        simp [this]
      rw [e1]
      clear e1 c2
      have c1 : ∀ W, Calls Try.prog 80 #[.int .i64 s] W fun e w' => e = .returned (.bool false) ∧ w' = W := fun W => by simpa [h1] using c1 W
      go_enter Try.func47, Try.ntmps47
      go_wp2_with (go_at_call 80; refine (c1 _).mono ?_; rintro e w' ⟨rfl, rfl⟩)
      go_ret
      exact ⟨rfl, (Below.refl w.heap.size w).alloc (Nat.le_refl _) _⟩
  by_cases k2 : k = 2
  · subst k2
    have e1 : ck 2 s v = if s ≠ 0 then 41 else if (64 : Int) < v.size then 42 else 0 := by
      unfold ck
      by_cases h : s = 0 <;> simp [h] <;> omega
    have c2 := c2 2 s 64
    rw [← e1] at c2
    clear e1
    generalize ck 2 s v = r at c2 ⊢
    clear c1
    go_enter Try.func47, Try.ntmps47
    go_wp2_with (go_at_call 81; refine (c2 _).mono ?_; rintro e w' ⟨rfl, hb⟩)
    go_ret
    exact ⟨rfl, ((Below.refl w.heap.size w).alloc (Nat.le_refl _) _).trans (hb.mono (by simp))⟩
  by_cases k3 : k = 3
  · subst k3
    by_cases h1 : 0 ≤ s ∧ s < 1024
    · have e1 : ck 3 s v = if (0 : Int) ≠ 0 then 41 else if (0 : Int) < v.size then 42 else 0 := by
        unfold ck
        have : ¬ (s < 0 ∨ 1024 ≤ s) := by omega
        simp [this]
      have c2 := c2 3 0 0
      rw [← e1] at c2
      clear e1
      generalize ck 3 s v = r at c2 ⊢
      have c1 : ∀ W, Calls Try.prog 80 #[.int .i64 s] W fun e w' => e = .returned (.bool true) ∧ w' = W := fun W => by simpa [h1] using c1 W
      go_enter Try.func47, Try.ntmps47
      go_wp2_with (first | (go_at_call 80; refine (c1 _).mono ?_; rintro e w' ⟨rfl, rfl⟩) | (go_at_call 81; refine (c2 _).mono ?_; rintro e w' ⟨rfl, hb⟩))
      go_ret
      exact ⟨rfl, ((Below.refl w.heap.size w).alloc (Nat.le_refl _) _).trans (hb.mono (by simp))⟩
    · have e1 : ck 3 s v = 41 := by
        unfold ck
        have : s < 0 ∨ 1024 ≤ s := by omega
        simp [this]
      rw [e1]
      clear e1 c2
      have c1 : ∀ W, Calls Try.prog 80 #[.int .i64 s] W fun e w' => e = .returned (.bool false) ∧ w' = W := fun W => by simpa [h1] using c1 W
      go_enter Try.func47, Try.ntmps47
      go_wp2_with (go_at_call 80; refine (c1 _).mono ?_; rintro e w' ⟨rfl, rfl⟩)
      go_ret
      exact ⟨rfl, (Below.refl w.heap.size w).alloc (Nat.le_refl _) _⟩
  by_cases k4 : k = 4
  · subst k4
    have e1 : ck 4 s v = if s ≠ 0 then 41 else if (0 : Int) < v.size then 42 else 0 := by
      unfold ck
      by_cases h : s = 0 <;> simp [h]
    have c2 := c2 4 s 0
    rw [← e1] at c2
    clear e1
    generalize ck 4 s v = r at c2 ⊢
    clear c1
    go_enter Try.func47, Try.ntmps47
    go_wp2_with (go_at_call 81; refine (c2 _).mono ?_; rintro e w' ⟨rfl, hb⟩)
    go_ret
    exact ⟨rfl, ((Below.refl w.heap.size w).alloc (Nat.le_refl _) _).trans (hb.mono (by simp))⟩
  have e1 : ck k s v = 40 := by simp [ck, k1, k2, k3, k4]
  rw [e1]
  clear e1 c1 c2
  have b1 : (k == 1) = false := by simp [k1]
  have b2 : (k == 2) = false := by simp [k2]
  have b3 : (k == 3) = false := by simp [k3]
  have b4 : (k == 4) = false := by simp [k4]
  go_enter Try.func47, Try.ntmps47
  go_wp2
  go_ret
  exact ⟨rfl, (Below.refl w.heap.size w).alloc (Nat.le_refl _) _⟩

end Go.Proofs.Ytjkleldoeojbbaa

namespace Go.Proofs.Ytjkleldoeojbbaa
open Go.RowKit Go.Maps
set_option linter.unusedVariables false

theorem grown_frozen {w w' : World} {row : Option Nat} (hg : w.grownBy w' row) {a : Addr} (hl : a.block < w.heap.size) (hne : some a.block ≠ row) : w'.frozen? a = w.frozen? a :=
  World.frozen?_of_block (w := w) (hg.block a.block hl hne)
/-- The ledger at b has these cells now; of what was there its blocks alone have changed. -/
def Took (w : World) (b : Nat) (m : Option Nat) (L : List Cl) (w' : World) : Prop :=
  ∃ m', Led w' b m' L ∧ (m' = m ∨ ∃ j, m' = some j ∧ w.heap.size ≤ j) ∧ Upd (LS b m) w w'
theorem took_of {w w1 : World} {b j : Nat} {m : Option Nat} {L : List Cl} {p : Cl} {x : Int} (ok : Ok (ins p L)) (hn : gv L p.1 = none) (hjb : j ≠ b) (lt : b < w1.heap.size) (hown1 : w1.ownsMap Try.prog 3 cR j (L.length + 1) ((mD L).put (.int .i64 p.1) (cD p)))
    (hu : Upd (LS b m) w w1) (c0 : w1.cell? ⟨b, 0, none⟩ = some (.map (some j))) (c1 : w1.cell? ⟨b, 1, none⟩ = some (.int .i64 (bh L))) (f0 : w1.frozen? ⟨b, 0, none⟩ = false) (f1 : w1.frozen? ⟨b, 1, none⟩ = false)
    (hx : x = max (bh L) (p.1 + 1)) (hm : m = some j ∨ w.heap.size ≤ j) : Took w b m (ins p L) (w1.setCell ⟨b, 1, none⟩ (.int .i64 x)) := by
  rw [mD_put hn] at hown1
  refine ⟨some j, ⟨ok, by simpa using lt, ?_, ?_, ?_, ?_, (fun e => by cases e), fun i e => ?_⟩, ?_, hu.setCell (.inl (.inl rfl)) _⟩
  · go_simp
  · rw [bh_ins, ← hx]
    exact World.cell?_setCell_same' _ _ _ (by rw [c1]; rfl)
  · rw [World.frozen?_setCell]; exact f0
  · rw [World.frozen?_setCell]; exact f1
  · cases e
    rw [len_ins]
    exact ⟨hjb, hown1.setCell (a := ⟨b, 1, none⟩) hjb _⟩
  · rcases hm with h | h
    · exact .inl h.symm
    · exact .inr ⟨j, rfl, h⟩
set_option maxRecDepth 100000 in
set_option maxHeartbeats 1000000 in
theorem take_any (b : Nat) (m : Option Nat) (L : List Cl) (p : Cl) (w : World) (h : Led w b m L) (hp : 0 ≤ p.1 ∧ p.1 < 1024 ∧ p.2.size ≤ 64) (hn : gv L p.1 = none) :
    Calls Try.prog 104 #[.pointer (some ⟨b, 0, none⟩), .int .i64 p.1, .string p.2] w fun e w' => e = .returned (.tuple #[]) ∧ Took w b m (ins p L) w' := by
  have hok := hide (h.ok.ins hp hn)
  have hnn := hide hn
  obtain ⟨ok, lt, c0, c1, f0, f1, nn, sm⟩ := h
  obtain ⟨s, v⟩ := p
  dsimp only at hp hn ⊢
  have hll := ok.len_le
  have hbh := ok.bh_le
  have hb0 := bh_nonneg L
  have hkey := keyOf_int_mk Try.underlying3 (wf_i64 (a := s) (by omega))
  have q : ∀ (w : World) (r : Option Nat), (binOp .eql 194 (.map r) (.map none)).run Try.prog w = .ok (.bool r.isNone) w := fun w r => run_eql_map_nil w _ _ _ r Try.underlying194
  have hmm := @run_makeMap Try.prog
  cases m with
  | some j =>
    obtain ⟨hjb, hown⟩ := sm j rfl
    clear nn sm
    go_enter Try.func104, Try.ntmps104
    go_wp2_with (first
      | (at_mapUpdate; refine wpList_mapUpdate_own _ rfl _ _ _ 194 rfl 3 148 keyed Try.underlying194 _ j L.length (mD L) rfl hown (by unfold maxLen; omega) _ _ _ rfl rfl hkey (cD (s, v)) [] (cR_mk (s, v)) ?_; intro w1 hown1 hg1; have d1 := hg1.cell c1 (by simp; omega); have e1 := (grown_frozen (a := ⟨b, 1, none⟩) hg1 lt (by simp; omega)).trans f1)
      | go_in)
    all_goals
      go_end0
      refine ⟨rfl, took_of hok.out hnn.out hjb (Nat.lt_of_lt_of_le lt hg1.size) hown1 ((Upd.refl _ w).grownBy hg1 (fun k e _ => .inr e)) (hg1.cell c0 (by simp; omega)) d1 ((grown_frozen (a := ⟨b, 0, none⟩) hg1 lt (by simp; omega)).trans f0) e1 (by dsimp only; omega) (.inl rfl)⟩
  | none =>
    obtain rfl := nn rfl
    clear nn sm
    have hown := World.ownsMap_made (H := Unit) (w.setCell ⟨b, 0, none⟩ (.map (some w.heap.size))) Try.prog 3 cR
    rw [show (w.setCell ⟨b, 0, none⟩ (.map (some w.heap.size))).heap.size = w.heap.size by simp [World.setCell]] at hown
    have k0 : ((w.setCell ⟨b, 0, none⟩ (.map (some w.heap.size))).alloc (.map #[] 0)).cell? ⟨b, 0, none⟩ = some (.map (some w.heap.size)) := by go_simp
    have k1 : ((w.setCell ⟨b, 0, none⟩ (.map (some w.heap.size))).alloc (.map #[] 0)).cell? ⟨b, 1, none⟩ = some (.int .i64 (bh [])) := by go_simp
    have j0 : ((w.setCell ⟨b, 0, none⟩ (.map (some w.heap.size))).alloc (.map #[] 0)).frozen? ⟨b, 0, none⟩ = false := by go_simp
    have j1 : ((w.setCell ⟨b, 0, none⟩ (.map (some w.heap.size))).alloc (.map #[] 0)).frozen? ⟨b, 1, none⟩ = false := by go_simp
    have hu : Upd (LS b none) w ((w.setCell ⟨b, 0, none⟩ (.map (some w.heap.size))).alloc (.map #[] 0)) := ((Upd.refl _ w).setCell (.inl (.inl rfl)) _).alloc _
    have hs : ((w.setCell ⟨b, 0, none⟩ (.map (some w.heap.size))).alloc (.map #[] 0)).heap.size = w.heap.size + 1 := by simp [World.setCell]
    have khs := hide hs
    have ku := hide hu
    have kk0 := hide k0
    have kj0 := hide j0
    clear hs hu k0 j0
    go_enter Try.func104, Try.ntmps104
    go_wp2_with (first
      | (at_mapUpdate; refine wpList_mapUpdate_own _ rfl _ _ _ 194 rfl 3 148 keyed Try.underlying194 _ w.heap.size 0 (mD []) rfl hown (by unfold maxLen; omega) _ _ _ rfl rfl hkey (cD (s, v)) [] (cR_mk (s, v)) ?_; intro w1 hown1 hg1; have d1 := hg1.cell k1 (by simp; omega); have e1 := (grown_frozen (a := ⟨b, 1, none⟩) hg1 (by have := khs.out; dsimp only; omega) (by simp; omega)).trans j1)
      | go_in)
    all_goals
      go_end0
      refine ⟨rfl, took_of hok.out hnn.out (j := w.heap.size) (by omega) (Nat.lt_of_lt_of_le (by have := khs.out; omega) hg1.size) hown1 (ku.out.grownBy hg1 (fun k e hk => by cases e; omega)) (hg1.cell kk0.out (by simp; omega)) d1 ((grown_frozen (a := ⟨b, 0, none⟩) hg1 (by have := khs.out; dsimp only; omega) (by simp; omega)).trans kj0.out) e1 (by have : bh [] = 0 := rfl; dsimp only; omega) (.inr (Nat.le_refl _))⟩

end Go.Proofs.Ytjkleldoeojbbaa

namespace Go.Proofs.Ytjkleldoeojbbaa
open Go.RowKit Go.Maps
set_option linter.unusedVariables false

theorem look_vals (L : List Cl) (s : Int) : ∃ (t : Int) (x : ByteArray) (tk : Bool), gv L s = (if tk then some x else none) ∧ (match gv L s with | some x => cV (s, x) | none => cV (0, ByteArray.empty)) = .agg #[.int .i64 t, .string x] ∧ (gv L s).isSome = tk := by
  cases h : gv L s with
  | none => exact ⟨0, ByteArray.empty, false, rfl, rfl, rfl⟩
  | some x => exact ⟨s, x, true, rfl, rfl, rfl⟩
theorem box_facts {w w1 : World} {k s : Int} {v e : ByteArray} {T1 T2 : TypeId} (hb : Below ((w.alloc (.cells #[.int .i64 k, .int .i64 s, .string v] T1)).alloc (.cells #[.int .i64 0, .int .i64 0, .string e] T2)).heap.size ((w.alloc (.cells #[.int .i64 k, .int .i64 s, .string v] T1)).alloc (.cells #[.int .i64 0, .int .i64 0, .string e] T2)) w1) :
    w1.cell? ⟨w.heap.size, 0, none⟩ = some (.int .i64 k) ∧ w1.cell? ⟨w.heap.size, 1, none⟩ = some (.int .i64 s) ∧ w1.cell? ⟨w.heap.size, 2, none⟩ = some (.string v) ∧
    w1.cell? ⟨w.heap.size + 1, 0, none⟩ = some (.int .i64 0) ∧ w1.cell? ⟨w.heap.size + 1, 1, none⟩ = some (.int .i64 0) ∧ w1.cell? ⟨w.heap.size + 1, 2, none⟩ = some (.string e) ∧
    w1.frozen? ⟨w.heap.size + 1, 0, none⟩ = false ∧ w1.frozen? ⟨w.heap.size + 1, 1, none⟩ = false ∧ w1.frozen? ⟨w.heap.size + 1, 2, none⟩ = false := by
  refine ⟨(hb.cell (p := ⟨w.heap.size, 0, none⟩) ?_).trans ?_, (hb.cell (p := ⟨w.heap.size, 1, none⟩) ?_).trans ?_, (hb.cell (p := ⟨w.heap.size, 2, none⟩) ?_).trans ?_, (hb.cell (p := ⟨w.heap.size + 1, 0, none⟩) ?_).trans ?_, (hb.cell (p := ⟨w.heap.size + 1, 1, none⟩) ?_).trans ?_, (hb.cell (p := ⟨w.heap.size + 1, 2, none⟩) ?_).trans ?_, (hb.frozen (p := ⟨w.heap.size + 1, 0, none⟩) ?_).trans ?_, (hb.frozen (p := ⟨w.heap.size + 1, 1, none⟩) ?_).trans ?_, (hb.frozen (p := ⟨w.heap.size + 1, 2, none⟩) ?_).trans ?_⟩
  all_goals first | (simp; omega) | simp | go_simp
set_option maxRecDepth 100000 in
set_option maxHeartbeats 2000000 in
theorem would_any (b : Nat) (m : Option Nat) (L : List Cl) (o : Opn) (ho : o.fits) (w : World) (h : Led w b m L) :
    Calls Try.prog 86 #[.pointer (some ⟨b, 0, none⟩), o.val] w fun e w' => e = .returned (rV (wd L o.k o.s o.v)) ∧ Below w.heap.size w w' := by
  have cc := fun W => check_any o ho W
  have hh := hide h
  have hsw := ho.sw
  obtain ⟨k, s, v⟩ := o
  dsimp only [Opn.val] at cc hsw ⊢
  by_cases hc : ck k s v = 0
  · rw [hc] at cc
    obtain ⟨t, x, tk, hg, hl1, hl2⟩ := look_vals L s
    have hlook : ∀ W, Led W b m L → (Instr.lookup 194 (.map m) (.int .i64 s) true).run Try.prog W = .ok (.tuple #[.agg #[.int .i64 t, .string x], .bool tk]) W := fun W hL => by
      refine (look_any W m L.length L s hL.nn (fun j e => (hL.sm j e).2) hsw).trans ?_
      rw [hl2]
      exact congrArg (fun y => Result.ok (Value.tuple #[y, .bool tk]) W) hl1
    have hlen : ∀ W, Led W b m L → ∀ ty, (Builtin.len_ #[194] ty #[.map m]).run Try.prog W = .ok (.int .i64 L.length) W := fun W hL ty => len_any W m L.length L hL.nn (fun j e => (hL.sm j e).2) ty
    have ci := fun W => isslot_any (bh L) W
    have hr : wd L k s v = if k = 1 then (if tk then (2, s, x) else (1, s, v)) else if k = 2 then (if bh L < 1024 then (1, bh L, v) else (3, 0, ByteArray.empty)) else if k = 3 then (if tk then (4, s, x) else (5, s, ByteArray.empty)) else (6, L.length, ByteArray.empty) := by
      unfold wd
      rw [hg]
      cases tk <;> simp [hc]
    rw [hr]
    have k4 : k = 1 ∨ k = 2 ∨ k = 3 ∨ k = 4 := by
      unfold ck at hc
      by_cases a1 : k = 1 ∨ k = 3
      · omega
      · by_cases a2 : k = 2 ∨ k = 4
        · omega
        · simp [a1, a2] at hc
    clear hr hl1 hl2 hg hc h
    go_enter Try.func86, Try.ntmps86
    go_wp2_with (go_at_call 47; refine (cc _).mono ?_; rintro e w1 ⟨rfl, hb⟩; obtain ⟨y0, y1, y2, z0, z1, z2, zf0, zf1, zf2⟩ := box_facts hb)
    have hsz : w.heap.size + 2 ≤ w1.heap.size := by simpa using hb.size
    have L1 : Led w1 b m L := hh.out.upd (S := fun _ => False) (((((Upd.refl _ w).alloc _).alloc _).trans (Upd.of_below hb))) id (fun _ _ => id)
    have KS : ∀ v', Below w1.heap.size w1 v' → (Below w1.heap.size w1 v' ∧ v'.cell? ⟨b, 0, none⟩ = some (.map m) ∧ v'.cell? ⟨w.heap.size, 1, none⟩ = some (.int .i64 s) ∧ (Instr.lookup 194 (.map m) (.int .i64 s) true).run Try.prog v' = .ok (.tuple #[.agg #[.int .i64 t, .string x], .bool tk]) v') := fun v' b' => by
      have L2 : Led v' b m L := L1.upd (S := fun _ => False) (Upd.of_below b') id (fun _ _ => id)
      exact ⟨b', L2.c0, (b'.cell (p := ⟨w.heap.size, 1, none⟩) (by dsimp only; omega)).trans y1, hlook v' L2⟩
    have KH := hide KS
    clear KS
    go_region_held3 (fun v' => Below w1.heap.size w1 v' ∧ v'.cell? ⟨b, 0, none⟩ = some (.map m) ∧ v'.cell? ⟨w.heap.size, 1, none⟩ = some (.int .i64 s) ∧ (Instr.lookup 194 (.map m) (.int .i64 s) true).run Try.prog v' = .ok (.tuple #[.agg #[.int .i64 t, .string x], .bool tk]) v')
      ((refine KH.out _ ?_; repeat (first | exact Below.refl _ _ | assumption | refine Below.drew ?_ | refine Below.alloc ?_ (by simp) _ | refine Below.setCell ?_ (by simp) _)))
      (fail)
    all_goals
      have b2 : Below w1.heap.size w1 (w1.alloc (.cells #[.int .i64 t, .string x] 148)).drew := ((Below.refl _ w1).alloc (Nat.le_refl _) _).drew
      have tf0 : (w1.alloc (.cells #[.int .i64 t, .string x] 148)).drew.cell? ⟨w1.heap.size, 1, none⟩ = some (.string x) := by go_simp
      generalize (w1.alloc (.cells #[.int .i64 t, .string x] 148)).drew = W2 at b2 tf0 ⊢
      have hb3 := hb.trans (b2.mono (by simpa using hsz))
      have L2 : Led W2 b m L := L1.upd (S := fun _ => False) (Upd.of_below b2) id (fun _ _ => id)
      clear y0 y1 y2 z0 z1 z2 zf0 zf1 zf2
      obtain ⟨y0, y1, y2, z0, z1, z2, zf0, zf1, zf2⟩ := box_facts hb3
      have hb4 : Below w.heap.size w W2 := (((Below.refl w.heap.size w).alloc (Nat.le_refl _) _).alloc (by simp) _).trans (hb3.mono (by simp; omega))
      have d0 := L2.c0
      have d1 := L2.c1
      have hll := hlen _ L2
      have hb5 := hide hb4
      clear hb hb3 hb4 b2 hlook hlen KH cc
      rcases k4 with rfl | rfl | rfl | rfl
      · cases tk
        · go_wp2
          refine bodyPost_ret (v := rV (1, s, v)) (by simp [results, Try.results86, go_sem, rV, *] <;> rfl) rfl ⟨rfl, ?_⟩
          exact ((hb5.out.setCell (p := ⟨w.heap.size + 1, 0, none⟩) (by simp) _).setCell (p := ⟨w.heap.size + 1, 1, none⟩) (by simp) _).setCell (p := ⟨w.heap.size + 1, 2, none⟩) (by simp) _
        · go_wp2
          refine bodyPost_ret (v := rV (2, s, x)) (by simp [results, Try.results86, go_sem, rV, *] <;> rfl) rfl ⟨rfl, ?_⟩
          exact ((hb5.out.setCell (p := ⟨w.heap.size + 1, 0, none⟩) (by simp) _).setCell (p := ⟨w.heap.size + 1, 1, none⟩) (by simp) _).setCell (p := ⟨w.heap.size + 1, 2, none⟩) (by simp) _
      · by_cases hbh : bh L < 1024
        · have h0 := bh_nonneg L
          have ci : ∀ W, Calls Try.prog 80 #[.int .i64 (bh L)] W fun e w' => e = .returned (.bool true) ∧ w' = W := fun W => by simpa [hbh, h0] using ci W
          go_wp2_with (go_at_call 80; refine (ci _).mono ?_; rintro e w' ⟨rfl, rfl⟩)
          have nb : b ≠ w.heap.size + 1 := by have := hh.out.lt; omega
          have nb' : ¬ (w.heap.size + 1 = b) := fun e => nb e.symm
          go_region_held3 (fun v' => v'.cell? ⟨b, 1, none⟩ = some (.int .i64 (bh L)) ∧ v'.cell? ⟨w.heap.size, 2, none⟩ = some (.string v)) (first | go_keep | (exact ⟨by go_simp, by go_simp⟩)) (fail)
          go_wp2
          refine bodyPost_ret (v := rV (1, bh L, v)) (by simp [results, Try.results86, go_sem, rV, *] <;> rfl) rfl ⟨rfl, ?_⟩
          exact ((hb5.out.drew.setCell (p := ⟨w.heap.size + 1, 0, none⟩) (by simp) _).setCell (p := ⟨w.heap.size + 1, 1, none⟩) (by simp) _).setCell (p := ⟨w.heap.size + 1, 2, none⟩) (by simp) _
        · have ci : ∀ W, Calls Try.prog 80 #[.int .i64 (bh L)] W fun e w' => e = .returned (.bool false) ∧ w' = W := fun W => by simpa [hbh] using ci W
          go_wp2_with (go_at_call 80; refine (ci _).mono ?_; rintro e w' ⟨rfl, rfl⟩)
          refine bodyPost_ret (v := rV (3, 0, ByteArray.empty)) (by simp [results, Try.results86, go_sem, rV, *] <;> rfl) rfl ⟨rfl, ?_⟩
          exact ((hb5.out.setCell (p := ⟨w.heap.size + 1, 0, none⟩) (by simp) _).setCell (p := ⟨w.heap.size + 1, 1, none⟩) (by simp) _).setCell (p := ⟨w.heap.size + 1, 2, none⟩) (by simp) _
      · cases tk
        · go_wp2
          refine bodyPost_ret (v := rV (5, s, ByteArray.empty)) (by simp [results, Try.results86, go_sem, rV, *] <;> rfl) rfl ⟨rfl, ?_⟩
          exact ((hb5.out.setCell (p := ⟨w.heap.size + 1, 0, none⟩) (by simp) _).setCell (p := ⟨w.heap.size + 1, 1, none⟩) (by simp) _).setCell (p := ⟨w.heap.size + 1, 2, none⟩) (by simp) _
        · go_wp2
          refine bodyPost_ret (v := rV (4, s, x)) (by simp [results, Try.results86, go_sem, rV, *] <;> rfl) rfl ⟨rfl, ?_⟩
          exact ((hb5.out.setCell (p := ⟨w.heap.size + 1, 0, none⟩) (by simp) _).setCell (p := ⟨w.heap.size + 1, 1, none⟩) (by simp) _).setCell (p := ⟨w.heap.size + 1, 2, none⟩) (by simp) _
      · go_wp2
        refine bodyPost_ret (v := rV (6, (L.length : Int), ByteArray.empty)) (by simp [results, Try.results86, go_sem, rV, *] <;> rfl) rfl ⟨rfl, ?_⟩
        exact ((hb5.out.setCell (p := ⟨w.heap.size + 1, 0, none⟩) (by simp) _).setCell (p := ⟨w.heap.size + 1, 1, none⟩) (by simp) _).setCell (p := ⟨w.heap.size + 1, 2, none⟩) (by simp) _
  · have hr : wd L k s v = (0, 0, ByteArray.empty) := by simp [wd, hc]
    rw [hr]
    have hne : (ck k s v == 0) = false := by simp [hc]
    clear hr
    go_enter Try.func86, Try.ntmps86
    go_wp2_with (go_at_call 47; refine (cc _).mono ?_; rintro e w1 ⟨rfl, hb⟩; obtain ⟨y0, y1, y2, z0, z1, z2, zf0, zf1, zf2⟩ := box_facts hb)
    have hb5 : Below w.heap.size w w1 := (((Below.refl w.heap.size w).alloc (Nat.le_refl _) _).alloc (by simp) _).trans (hb.mono (by simp; omega))
    refine bodyPost_ret (v := rV (0, 0, ByteArray.empty)) (by simp [results, Try.results86, go_sem, rV, *] <;> rfl) rfl ⟨rfl, ?_⟩
    exact ((hb5.setCell (p := ⟨w.heap.size + 1, 0, none⟩) (by simp) _).setCell (p := ⟨w.heap.size + 1, 1, none⟩) (by simp) _).setCell (p := ⟨w.heap.size + 1, 2, none⟩) (by simp) _

end Go.Proofs.Ytjkleldoeojbbaa

namespace Go.Proofs.Ytjkleldoeojbbaa
open Go.RowKit Go.Maps
set_option linter.unusedVariables false

theorem Took.wrap {w wa wb wc : World} {b : Nat} {m : Option Nat} {L : List Cl} (hu : Upd (fun _ => False) w wa) (t : Took wa b m L wb) (hlt : b < w.heap.size) (hm : ∀ j, m = some j → j < w.heap.size) (hc : Upd (fun i => w.heap.size ≤ i ∧ i < wa.heap.size) wb wc) : Took w b m L wc := by
  obtain ⟨m', hl, hmm, hup⟩ := t
  have hle := hu.size
  have h1 : Upd (LS b m) w wb := (hu.mono (fun _ _ h => h.elim)).trans hup
  refine ⟨m', hl.upd hc (by omega) (fun j e => ?_), ?_, ⟨hc.os.trans h1.os, hc.tape.trans h1.tape, hc.output.trans h1.output, Nat.le_trans h1.size hc.size, fun k hk hs => ?_⟩⟩
  · rcases hmm with h | ⟨i, h, hi⟩
    · have := hm j (h ▸ e); omega
    · rw [h] at e; cases e; omega
  · rcases hmm with h | ⟨i, h, hi⟩
    · exact .inl h
    · exact .inr ⟨i, h, by omega⟩
  · exact (hc.block k (Nat.lt_of_lt_of_le hk h1.size) (by omega)).trans (h1.block k hk hs)
theorem Took.upd {w w' : World} {b : Nat} {m : Option Nat} {L : List Cl} (t : Took w b m L w') : Upd (LS b m) w w' := by
  obtain ⟨_, _, _, h⟩ := t
  exact h
theorem Took.same {w w' : World} {b : Nat} {m : Option Nat} {L : List Cl} (h : Led w b m L) (hb : Below w.heap.size w w') : Took w b m L w' :=
  ⟨m, h.upd (S := fun _ => False) (Upd.of_below hb) id (fun _ _ => id), .inl rfl, (Upd.of_below (S := fun _ => False) hb).mono (fun _ _ h => h.elim)⟩
theorem box_facts2 {w w1 w2 : World} {k s : Int} {v e : ByteArray} {T1 T2 : TypeId} {rc rs : Int} {rv : ByteArray} {T3 : TypeId} {b : Nat} {m : Option Nat} (hb : Below ((w.alloc (.cells #[.int .i64 k, .int .i64 s, .string v] T1)).alloc (.cells #[.int .i64 0, .int .i64 0, .string e] T2)).heap.size ((w.alloc (.cells #[.int .i64 k, .int .i64 s, .string v] T1)).alloc (.cells #[.int .i64 0, .int .i64 0, .string e] T2)) w1)
    (u : Upd (LS b m) (w1.alloc (.cells #[.int .i64 rc, .int .i64 rs, .string rv] T3)) w2) (hlt : b < w.heap.size) (hm : ∀ j, m = some j → j < w.heap.size) :
    w2.cell? ⟨w1.heap.size, 0, none⟩ = some (.int .i64 rc) ∧ w2.cell? ⟨w1.heap.size, 1, none⟩ = some (.int .i64 rs) ∧ w2.cell? ⟨w1.heap.size, 2, none⟩ = some (.string rv) ∧
    w2.cell? ⟨w.heap.size + 1, 0, none⟩ = some (.int .i64 0) ∧ w2.cell? ⟨w.heap.size + 1, 1, none⟩ = some (.int .i64 0) ∧ w2.cell? ⟨w.heap.size + 1, 2, none⟩ = some (.string e) ∧
    w2.frozen? ⟨w.heap.size + 1, 0, none⟩ = false ∧ w2.frozen? ⟨w.heap.size + 1, 1, none⟩ = false ∧ w2.frozen? ⟨w.heap.size + 1, 2, none⟩ = false := by
  obtain ⟨_, _, _, z0, z1, z2, zf0, zf1, zf2⟩ := box_facts hb
  have hs : w.heap.size + 2 ≤ w1.heap.size := by simpa using hb.size
  have hn : ∀ i, w.heap.size ≤ i → ¬ LS b m i := fun i hi h => by
    rcases h with h | h
    · omega
    · have := hm i h; omega
  have n0 : w.heap.size + 1 ≠ w1.heap.size := by omega
  have n1 : ¬ LS b m w1.heap.size := hn _ (by omega)
  have n2 : ¬ LS b m (w.heap.size + 1) := hn _ (by omega)
  have b1 := (Below.refl w1.heap.size w1).alloc (Nat.le_refl _) (.cells #[.int .i64 rc, .int .i64 rs, .string rv] T3)
  exact ⟨(u.cell (p := ⟨w1.heap.size, 0, none⟩) (by simp) n1).trans (by go_simp), (u.cell (p := ⟨w1.heap.size, 1, none⟩) (by simp) n1).trans (by go_simp), (u.cell (p := ⟨w1.heap.size, 2, none⟩) (by simp) n1).trans (by go_simp), (u.cell (p := ⟨w.heap.size + 1, 0, none⟩) (by simp; omega) n2).trans ((b1.cell (p := ⟨w.heap.size + 1, 0, none⟩) (by dsimp only; omega)).trans z0), (u.cell (p := ⟨w.heap.size + 1, 1, none⟩) (by simp; omega) n2).trans ((b1.cell (p := ⟨w.heap.size + 1, 1, none⟩) (by dsimp only; omega)).trans z1), (u.cell (p := ⟨w.heap.size + 1, 2, none⟩) (by simp; omega) n2).trans ((b1.cell (p := ⟨w.heap.size + 1, 2, none⟩) (by dsimp only; omega)).trans z2), (u.frozen (p := ⟨w.heap.size + 1, 0, none⟩) (by simp; omega) n2).trans ((b1.frozen (p := ⟨w.heap.size + 1, 0, none⟩) (by dsimp only; omega)).trans zf0), (u.frozen (p := ⟨w.heap.size + 1, 1, none⟩) (by simp; omega) n2).trans ((b1.frozen (p := ⟨w.heap.size + 1, 1, none⟩) (by dsimp only; omega)).trans zf1), (u.frozen (p := ⟨w.heap.size + 1, 2, none⟩) (by simp; omega) n2).trans ((b1.frozen (p := ⟨w.heap.size + 1, 2, none⟩) (by dsimp only; omega)).trans zf2)⟩
set_option maxRecDepth 100000 in
set_option maxHeartbeats 2000000 in
theorem do_any (b : Nat) (m : Option Nat) (L : List Cl) (o : Opn) (ho : o.fits) (w : World) (h : Led w b m L) :
    Calls Try.prog 79 #[.pointer (some ⟨b, 0, none⟩), o.val] w fun e w' => e = .returned (rV (wd L o.k o.s o.v)) ∧ Took w b m (dn L o.k o.s o.v) w' := by
  have cw := fun W hW => would_any b m L o ho W hW
  have hh := hide h
  have hlt := h.lt
  have hml : ∀ j, m = some j → j < w.heap.size := fun j e => h.mlt e
  have hmh := hide hml
  clear hml
  have hok := h.ok
  have hwr := fun e => wd_written hok (k := o.k) (s := o.s) (v := o.v) e
  have hdn : dn L o.k o.s o.v = if (wd L o.k o.s o.v).1 = 1 then ins (wd L o.k o.s o.v).2 L else L := rfl
  rw [hdn]
  clear hdn
  obtain ⟨k, s, v⟩ := o
  dsimp only [Opn.val] at cw hwr ⊢
  generalize wd L k s v = r at cw hwr ⊢
  obtain ⟨rc, rs, rv⟩ := r
  dsimp only [rV] at cw hwr ⊢
  by_cases hr : rc = 1
  · subst hr
    obtain ⟨g0, g1, g2, g3, g4⟩ := hwr rfl
    subst g2
    have ct := fun W hW => take_any b m L (rs, rv) W hW ⟨g0, g1, g3⟩ g4
    dsimp only at ct
    have hT : (if (1 : Int) = 1 then ins (rs, rv) L else L) = ins (rs, rv) L := by simp
    rw [hT]
    clear hT hwr
    go_enter Try.func79, Try.ntmps79
    go_wp2_with (first
      | (go_at_call 86; refine (cw _ (hh.out.upd (S := fun _ => False) (((Upd.refl _ w).alloc _).alloc _) id (fun _ _ => id))).mono ?_; rintro e w1 ⟨rfl, hb⟩)
      | (go_at_call 104; refine (ct _ (hh.out.upd (S := fun _ => False) ((((Upd.refl _ w).alloc _).alloc _).trans ((Upd.of_below hb).alloc _)) id (fun _ _ => id))).mono ?_; rintro e w2 ⟨rfl, ht⟩; obtain ⟨x0, x1, x2, z0, z1, z2, zf0, zf1, zf2⟩ := box_facts2 hb ht.upd hlt hmh.out))
    have hs2 : w.heap.size + 2 ≤ w1.heap.size := by simpa using hb.size
    refine bodyPost_ret (v := .agg #[.int .i64 1, .int .i64 rs, .string rv]) (by simp [results, Try.results79, go_sem, *]) rfl ⟨rfl, ?_⟩
    refine ht.wrap ((((Upd.refl _ w).alloc _).alloc _).trans ((Upd.of_below hb).alloc _)) hlt hmh.out ?_
    exact (((Upd.refl _ w2).setCell (p := ⟨w.heap.size + 1, 0, none⟩) (.inl ⟨by simp, by simp; omega⟩) _).setCell (p := ⟨w.heap.size + 1, 1, none⟩) (.inl ⟨by simp, by simp; omega⟩) _).setCell (p := ⟨w.heap.size + 1, 2, none⟩) (.inl ⟨by simp, by simp; omega⟩) _
  · have hT : (if rc = 1 then ins (rs, rv) L else L) = L := by simp [hr]
    rw [hT]
    have hne : (rc == 1) = false := by simp [hr]
    clear hT hwr
    go_enter Try.func79, Try.ntmps79
    go_wp2_with (go_at_call 86; refine (cw _ (hh.out.upd (S := fun _ => False) (((Upd.refl _ w).alloc _).alloc _) id (fun _ _ => id))).mono ?_; rintro e w1 ⟨rfl, hb⟩; obtain ⟨_, _, _, z0, z1, z2, zf0, zf1, zf2⟩ := box_facts2 hb (Upd.refl (LS b m) (w1.alloc (.cells #[.int .i64 rc, .int .i64 rs, .string rv] 64))) hlt hmh.out)
    have hs2 : w.heap.size + 2 ≤ w1.heap.size := by simpa using hb.size
    refine bodyPost_ret (v := .agg #[.int .i64 rc, .int .i64 rs, .string rv]) (by simp [results, Try.results79, go_sem, *]) rfl ⟨rfl, Took.same hh.out ?_⟩
    have hb5 : Below w.heap.size w w1 := (((Below.refl w.heap.size w).alloc (Nat.le_refl _) _).alloc (by simp) _).trans (hb.mono (by simp; omega))
    repeat (first | exact hb5 | refine Below.alloc ?_ (by first | assumption | (simp [World.setCell]; omega) | omega) _ | refine Below.setCell ?_ (by first | (simp; done) | (simp; omega)) _)

end Go.Proofs.Ytjkleldoeojbbaa

namespace Go.Proofs.Ytjkleldoeojbbaa
open Go.RowKit Go.Maps
set_option linter.unusedVariables false

theorem bytes_inj (a b : ByteArray) : a.toList = b.toList ↔ a = b := by
  rw [ByteArray.toList_eq, ByteArray.toList_eq]
  obtain ⟨⟨x⟩⟩ := a
  obtain ⟨⟨y⟩⟩ := b
  simp
theorem eql_res (r r' : Rs) (w : World) : (binOp .eql 64 (.agg #[.int .i64 r.1, .int .i64 r.2.1, .string r.2.2]) (.agg #[.int .i64 r'.1, .int .i64 r'.2.1, .string r'.2.2])).run Try.prog w = .ok (.bool (decide (r = r'))) w := by
  go_simp
  obtain ⟨a, b, c⟩ := r
  obtain ⟨a', b', c'⟩ := r'
  dsimp only
  by_cases e1 : a = a' <;> by_cases e2 : b = b' <;> by_cases e3 : c = c' <;> simp [e1, e2, e3, bytes_inj]
theorem neq_res (r r' : Rs) (w : World) : (binOp .neq 64 (.agg #[.int .i64 r.1, .int .i64 r.2.1, .string r.2.2]) (.agg #[.int .i64 r'.1, .int .i64 r'.2.1, .string r'.2.2])).run Try.prog w = .ok (.bool (!decide (r = r'))) w := by
  go_simp
  obtain ⟨a, b, c⟩ := r
  obtain ⟨a', b', c'⟩ := r'
  dsimp only
  by_cases e1 : a = a' <;> by_cases e2 : b = b' <;> by_cases e3 : c = c' <;> simp [e1, e2, e3, bytes_inj]
theorem lenm_any (b : Nat) (m : Option Nat) (L : List Cl) (w : World) (h : Led w b m L) :
    Calls Try.prog 116 #[.pointer (some ⟨b, 0, none⟩)] w fun e w' => e = .returned (.int .i64 L.length) ∧ w' = w := by
  have d0 := h.c0
  have hl := len_any w m L.length L h.nn (fun j e => (h.sm j e).2)
  clear h
  go_enter Try.func116, Try.ntmps116
  go_wp2
  go_ret
  exact ⟨rfl, rfl⟩

theorem check3 (k s : Int) (v : ByteArray) (hf : (⟨k, s, v⟩ : Opn).fits) (W : World) : Calls Try.prog 47 #[.agg #[.int .i64 k, .int .i64 s, .string v]] W fun e w' => e = .returned (.int .i64 (ck k s v)) ∧ Below W.heap.size W w' := check_any ⟨k, s, v⟩ hf W
theorem do3 (b : Nat) (m : Option Nat) (L : List Cl) (k s : Int) (v : ByteArray) (hf : (⟨k, s, v⟩ : Opn).fits) (W : World) (hW : Led W b m L) : Calls Try.prog 79 #[.pointer (some ⟨b, 0, none⟩), .agg #[.int .i64 k, .int .i64 s, .string v]] W fun e w' => e = .returned (.agg #[.int .i64 (wd L k s v).1, .int .i64 (wd L k s v).2.1, .string (wd L k s v).2.2]) ∧ Took W b m (dn L k s v) w' := do_any b m L ⟨k, s, v⟩ hf W hW
theorem would3 (b : Nat) (m : Option Nat) (L : List Cl) (k s : Int) (v : ByteArray) (hf : (⟨k, s, v⟩ : Opn).fits) (W : World) (hW : Led W b m L) : Calls Try.prog 86 #[.pointer (some ⟨b, 0, none⟩), .agg #[.int .i64 k, .int .i64 s, .string v]] W fun e w' => e = .returned (.agg #[.int .i64 (wd L k s v).1, .int .i64 (wd L k s v).2.1, .string (wd L k s v).2.2]) ∧ Below W.heap.size W w' := would_any b m L ⟨k, s, v⟩ hf W hW
/-- A ledger whose memory all lies from B on; below B nothing has changed since w0. -/
def LedB (B : Nat) (w0 w : World) (b : Nat) (L : List Cl) : Prop := ∃ m, Led w b m L ∧ B ≤ b ∧ (∀ j, m = some j → B ≤ j) ∧ Below B w0 w
theorem LedB.ok {B b : Nat} {w0 w : World} {L : List Cl} (h : LedB B w0 w b L) : Ok L := by obtain ⟨m, h, _⟩ := h; exact h.ok
theorem LedB.bel {B b : Nat} {w0 w : World} {L : List Cl} (h : LedB B w0 w b L) : Below B w0 w := by obtain ⟨m, _, _, _, h⟩ := h; exact h
theorem LedB.lt {B b : Nat} {w0 w : World} {L : List Cl} (h : LedB B w0 w b L) : B ≤ b ∧ b < w.heap.size := by obtain ⟨m, h, hb, _⟩ := h; exact ⟨hb, h.lt⟩
theorem LedB.on {B b : Nat} {w0 w w' : World} {L : List Cl} (h : LedB B w0 w b L) (hb : Below w.heap.size w w') : LedB B w0 w' b L := by
  obtain ⟨m, h1, h2, h3, h4⟩ := h
  exact ⟨m, h1.upd (S := fun _ => False) (Upd.of_below hb) id (fun _ _ => id), h2, h3, h4.trans (hb.mono (by have := h1.lt; omega))⟩
/-- Other blocks from B on may change. -/
theorem LedB.upd {S : Nat → Prop} {B b : Nat} {w0 w w' : World} {L : List Cl} (h : LedB B w0 w b L) (u : Upd S w w') (hS : ∀ k, S k → B ≤ k) (hn : ¬ S b) (hm : ∀ k, S k → ∀ es c, w.heap[k]? ≠ some (.map es c)) : LedB B w0 w' b L := by
  obtain ⟨m, h1, h2, h3, h4⟩ := h
  refine ⟨m, h1.upd u hn (fun j e hs => ?_), h2, h3, h4.trans (u.below (by have := h1.lt; omega) hS)⟩
  obtain ⟨es, c, hb, _⟩ := (h1.sm j e).2
  exact hm j hs es c hb
theorem LedB.took {B b : Nat} {w0 w w' : World} {m : Option Nat} {L' : List Cl} (t : Took w b m L' w') (hb : B ≤ b) (hs : B ≤ w.heap.size) (hm : ∀ j, m = some j → B ≤ j) (h0 : Below B w0 w) : LedB B w0 w' b L' := by
  obtain ⟨m', hl, hmm, hu⟩ := t
  refine ⟨m', hl, hb, fun j e => ?_, h0.trans (hu.below hs (fun k hk => ?_))⟩
  · rcases hmm with h | ⟨i, h, hi⟩
    · exact hm j (h ▸ e)
    · rw [h] at e; cases e; omega
  · rcases hk with rfl | hk
    · exact hb
    · exact hm k hk
theorem new_b (B : Nat) (w0 w : World) (h : Below B w0 w) (hs : B ≤ w.heap.size) : Calls Try.prog 78 #[] w fun e w' => e = .returned (.pointer (some ⟨w.heap.size, 0, none⟩)) ∧ LedB B w0 w' w.heap.size [] ∧ w'.heap.size = w.heap.size + 1 :=
  (new_any w).mono fun e w' ⟨he, hl, hu, hz⟩ => ⟨he, ⟨none, hl, hs, (fun j e => by cases e), h.trans (hu.below hs (fun k hk => hk.elim))⟩, hz⟩
theorem do_b (B : Nat) (w0 : World) (b : Nat) (L : List Cl) (k s : Int) (v : ByteArray) (hf : (⟨k, s, v⟩ : Opn).fits) (w : World) (h : LedB B w0 w b L) : Calls Try.prog 79 #[.pointer (some ⟨b, 0, none⟩), .agg #[.int .i64 k, .int .i64 s, .string v]] w fun e w' => e = .returned (.agg #[.int .i64 (wd L k s v).1, .int .i64 (wd L k s v).2.1, .string (wd L k s v).2.2]) ∧ LedB B w0 w' b (dn L k s v) := by
  obtain ⟨m, h1, h2, h3, h4⟩ := h
  exact (do3 b m L k s v hf w h1).mono fun e w' ⟨he, t⟩ => ⟨he, LedB.took t h2 (by have := h1.lt; omega) h3 h4⟩
theorem would_b (B : Nat) (w0 : World) (b : Nat) (L : List Cl) (k s : Int) (v : ByteArray) (hf : (⟨k, s, v⟩ : Opn).fits) (w : World) (h : LedB B w0 w b L) : Calls Try.prog 86 #[.pointer (some ⟨b, 0, none⟩), .agg #[.int .i64 k, .int .i64 s, .string v]] w fun e w' => e = .returned (.agg #[.int .i64 (wd L k s v).1, .int .i64 (wd L k s v).2.1, .string (wd L k s v).2.2]) ∧ Below w.heap.size w w' := by
  obtain ⟨m, h1, h2, h3, h4⟩ := h
  exact would3 b m L k s v hf w h1
theorem len_b (B : Nat) (w0 : World) (b : Nat) (L : List Cl) (w : World) (h : LedB B w0 w b L) :
    Calls Try.prog 116 #[.pointer (some ⟨b, 0, none⟩)] w fun e w' => e = .returned (.int .i64 L.length) ∧ w' = w := by
  obtain ⟨m, h1, h2, h3, h4⟩ := h
  exact lenm_any b m L w h1
end Go.Proofs.Ytjkleldoeojbbaa
