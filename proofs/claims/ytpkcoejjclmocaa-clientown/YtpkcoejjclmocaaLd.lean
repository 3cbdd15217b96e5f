import Derived.Test.YtpkcoejjclmocaaLc
namespace Go.Proofs.Ytpkcoejjclmocaa
open Go.RowKit Go.Maps
set_option linter.unusedVariables false

theorem grown_frozen {w w' : World} {row : Option Nat} (hg : w.grownBy w' row) {a : Addr} (hl : a.block < w.heap.size) (hne : some a.block ≠ row) : w'.frozen? a = w.frozen? a :=
  World.frozen?_of_block (w := w) (hg.block a.block hl hne)
/-- The ledger at b has these cells now; of what was there its blocks alone have changed. -/
def Took (w : World) (b : Nat) (m : Option Nat) (L : List Cl) (w' : World) : Prop :=
  ∃ m', Led w' b m' L ∧ (m' = m ∨ ∃ j, m' = some j ∧ w.heap.size ≤ j) ∧ Upd (LS b m) w w'
theorem took_of {w w1 : World} {b j : Nat} {m : Option Nat} {L : List Cl} {p : Cl} {x : Int} (ok : Ok (ins p L)) (hn : gv L p.1 = none) (hjb : j ≠ b) (lt : b < w1.heap.size) (hown1 : w1.ownsMap Try.prog 3 cR j (L.length + 1) ((mD L).put (.int .i64 p.1) (cD p)))
    (hu : Upd (LS b m) w w1) (c0 : w1.cell? ⟨b, 0, none⟩ = some (.map (some j))) (c1 : w1.cell? ⟨b, 1, none⟩ = some (.int .i64 (bh L))) (f0 : w1.frozen? ⟨b, 0, none⟩ = false) (f1 : w1.frozen? ⟨b, 1, none⟩ = false)
    (hx : x = max (bh L) (p.1 + 1)) (hm : m = some j ∨ w.heap.size ≤ j) : Took w b m (ins p L) (w1.setCell ⟨b, 1, none⟩ (.int .i64 x)) := by
  rw [mD_put hn] at hown1
  refine ⟨some j, ⟨ok, by simpa using lt, ?_, ?_, ?_, ?_, (fun e => by cases e), fun i e => ?_⟩, ?_, hu.setCell (.inl (.inl rfl)) _⟩
  · go_simp
  · rw [bh_ins, ← hx]
    exact World.cell?_setCell_same' _ _ _ (by rw [c1]; rfl)
  · rw [World.frozen?_setCell]; exact f0
  · rw [World.frozen?_setCell]; exact f1
  · cases e
    rw [len_ins]
    exact ⟨hjb, hown1.setCell (a := ⟨b, 1, none⟩) hjb _⟩
  · rcases hm with h | h
    · exact .inl h.symm
    · exact .inr ⟨j, rfl, h⟩
set_option maxRecDepth 100000 in
set_option maxHeartbeats 1000000 in
theorem take_any (b : Nat) (m : Option Nat) (L : List Cl) (p : Cl) (w : World) (h : Led w b m L) (hp : 0 ≤ p.1 ∧ p.1 < 1024 ∧ p.2.size ≤ 64) (hn : gv L p.1 = none) :
    Calls Try.prog 43 #[.pointer (some ⟨b, 0, none⟩), .int .i64 p.1, .string p.2] w fun e w' => e = .returned (.tuple #[]) ∧ Took w b m (ins p L) w' := by
  have hok := hide (h.ok.ins hp hn)
  have hnn := hide hn
  obtain ⟨ok, lt, c0, c1, f0, f1, nn, sm⟩ := h
  obtain ⟨s, v⟩ := p
  dsimp only at hp hn ⊢
  have hll := ok.len_le
  have hbh := ok.bh_le
  have hb0 := bh_nonneg L
  have hkey := keyOf_int_mk Try.underlying3 (wf_i64 (a := s) (by omega))
  have q : ∀ (w : World) (r : Option Nat), (binOp .eql 103 (.map r) (.map none)).run Try.prog w = .ok (.bool r.isNone) w := fun w r => run_eql_map_nil w _ _ _ r Try.underlying103
  have hmm := @run_makeMap Try.prog
  cases m with
  | some j =>
    obtain ⟨hjb, hown⟩ := sm j rfl
    clear nn sm
    go_enter Try.func43, Try.ntmps43
    go_wp2_with (first
      | (at_mapUpdate; refine wpList_mapUpdate_own _ rfl _ _ _ 103 rfl 3 124 keyed Try.underlying103 _ j L.length (mD L) rfl hown (by unfold maxLen; omega) _ _ _ rfl rfl hkey (cD (s, v)) [] (cR_mk (s, v)) ?_; intro w1 hown1 hg1; have d1 := hg1.cell c1 (by simp; omega); have e1 := (grown_frozen (a := ⟨b, 1, none⟩) hg1 lt (by simp; omega)).trans f1)
      | go_in)
    all_goals
      go_end0
      refine ⟨rfl, took_of hok.out hnn.out hjb (Nat.lt_of_lt_of_le lt hg1.size) hown1 ((Upd.refl _ w).grownBy hg1 (fun k e _ => .inr e)) (hg1.cell c0 (by simp; omega)) d1 ((grown_frozen (a := ⟨b, 0, none⟩) hg1 lt (by simp; omega)).trans f0) e1 (by dsimp only; omega) (.inl rfl)⟩
  | none =>
    obtain rfl := nn rfl
    clear nn sm
    have hown := World.ownsMap_made (H := Unit) (w.setCell ⟨b, 0, none⟩ (.map (some w.heap.size))) Try.prog 3 cR
    rw [show (w.setCell ⟨b, 0, none⟩ (.map (some w.heap.size))).heap.size = w.heap.size by simp [World.setCell]] at hown
    have k0 : ((w.setCell ⟨b, 0, none⟩ (.map (some w.heap.size))).alloc (.map #[] 0)).cell? ⟨b, 0, none⟩ = some (.map (some w.heap.size)) := by go_simp
    have k1 : ((w.setCell ⟨b, 0, none⟩ (.map (some w.heap.size))).alloc (.map #[] 0)).cell? ⟨b, 1, none⟩ = some (.int .i64 (bh [])) := by go_simp
    have j0 : ((w.setCell ⟨b, 0, none⟩ (.map (some w.heap.size))).alloc (.map #[] 0)).frozen? ⟨b, 0, none⟩ = false := by go_simp
    have j1 : ((w.setCell ⟨b, 0, none⟩ (.map (some w.heap.size))).alloc (.map #[] 0)).frozen? ⟨b, 1, none⟩ = false := by go_simp
    have hu : Upd (LS b none) w ((w.setCell ⟨b, 0, none⟩ (.map (some w.heap.size))).alloc (.map #[] 0)) := ((Upd.refl _ w).setCell (.inl (.inl rfl)) _).alloc _
    have hs : ((w.setCell ⟨b, 0, none⟩ (.map (some w.heap.size))).alloc (.map #[] 0)).heap.size = w.heap.size + 1 := by simp [World.setCell]
    have khs := hide hs
    have ku := hide hu
    have kk0 := hide k0
    have kj0 := hide j0
    clear hs hu k0 j0
    go_enter Try.func43, Try.ntmps43
    go_wp2_with (first
      | (at_mapUpdate; refine wpList_mapUpdate_own _ rfl _ _ _ 103 rfl 3 124 keyed Try.underlying103 _ w.heap.size 0 (mD []) rfl hown (by unfold maxLen; omega) _ _ _ rfl rfl hkey (cD (s, v)) [] (cR_mk (s, v)) ?_; intro w1 hown1 hg1; have d1 := hg1.cell k1 (by simp; omega); have e1 := (grown_frozen (a := ⟨b, 1, none⟩) hg1 (by have := khs.out; dsimp only; omega) (by simp; omega)).trans j1)
      | go_in)
    all_goals
      go_end0
      refine ⟨rfl, took_of hok.out hnn.out (j := w.heap.size) (by omega) (Nat.lt_of_lt_of_le (by have := khs.out; omega) hg1.size) hown1 (ku.out.grownBy hg1 (fun k e hk => by cases e; omega)) (hg1.cell kk0.out (by simp; omega)) d1 ((grown_frozen (a := ⟨b, 0, none⟩) hg1 (by have := khs.out; dsimp only; omega) (by simp; omega)).trans kj0.out) e1 (by have : bh [] = 0 := rfl; dsimp only; omega) (.inr (Nat.le_refl _))⟩

end Go.Proofs.Ytpkcoejjclmocaa
