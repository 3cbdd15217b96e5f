import Derived.Test.YtjedpnhdpnknoabLr
namespace Go.Proofs.Ytjedpnhdpnknoab
open Go.RowKit
set_option linter.unusedVariables false

theorem belN {B : Nat} {w w' : World} (h : Below B w w') (n : Nat) : Below B w (w'.drewN n) := ⟨h.os, h.tape, h.output, h.size, h.block⟩
theorem ins_last {c : Cl} : ∀ {L : List Cl}, (∀ p ∈ L, p.1 < c.1) → ins c L = L ++ [c]
  | [], _ => rfl
  | y :: r, h => by
    have h1 := h y (by simp)
    have h2 : ¬ c.1 < y.1 := by omega
    simp only [ins, h2, if_false, List.cons_append]
    rw [ins_last (fun p hp => h p (by simp [hp]))]
theorem bh_le_iff {L : List Cl} {s : Int} (hs : 0 ≤ s) : bh L ≤ s ↔ ∀ p ∈ L, p.1 < s := by
  induction L with
  | nil => simp [bh, hs]
  | cons y r ih =>
    have : bh (y :: r) ≤ s ↔ y.1 + 1 ≤ s ∧ bh r ≤ s := by simp only [bh]; omega
    rw [this, ih]
    simp
    omega
/-- What From asks of a cell behind these. -/
def fitC (L : List Cl) (c : Cl) : Prop := (0 ≤ c.1 ∧ c.1 < 1024) ∧ c.2.size ≤ 64 ∧ bh L ≤ c.1
theorem ok_snoc {L : List Cl} (h : Ok L) (c : Cl) : Ok (L ++ [c]) ↔ fitC L c := by
  constructor
  · intro ⟨hu, hm⟩
    have := hm c (by simp)
    refine ⟨⟨this.1, this.2.1⟩, this.2.2, (bh_le_iff this.1).2 (fun p hp => ?_)⟩
    exact (List.pairwise_append.1 hu).2.2 p hp c (by simp)
  · intro ⟨h1, h2, h3⟩
    refine ⟨List.pairwise_append.2 ⟨h.up, by simp, fun p hp q hq => ?_⟩, fun p hp => ?_⟩
    · simp at hq
      subst hq
      exact (bh_le_iff h1.1).1 h3 p hp
    · rcases List.mem_append.1 hp with hp | hp
      · exact h.may p hp
      · simp at hp
        subst hp
        exact ⟨h1.1, h1.2, h2⟩
theorem Ok.take {L : List Cl} (h : Ok L) (k : Nat) : Ok (L.take k) :=
  ⟨h.up.sublist (List.take_sublist _ _), fun p hp => h.may p (List.mem_of_mem_take hp)⟩
theorem SlC.later {w w' : World} {v : Value} {D : List Cl} {a : Option Addr} {c : Nat} (h : SlC w v D a c) (hb : Below w.heap.size w w') : SlC w' v D a c :=
  h.upd (S := fun _ => False) (Upd.of_below hb) (fun _ _ _ => id)
set_option maxRecDepth 100000 in
set_option maxHeartbeats 1000000 in
/-- From, whatever the cells are. -/
theorem from_any (D : List Cl) (a : Option Addr) (c : Nat) (w : World) (h : SlC w (.slice a D.length c) D a c) (hw : ∀ p ∈ D, (Lit.int .i64 p.1).wf = true ∧ p.2.size ≤ maxLen) :
    Calls Try.prog 14 #[.slice a D.length c] w fun e w' => (Ok D ∧ e = .returned (.tuple #[.pointer (some ⟨w.heap.size, 0, none⟩), .int .i64 0]) ∧ LedB w.heap.size w w' w.heap.size D) ∨ (¬ Ok D ∧ e = .returned (.tuple #[.pointer none, .int .i64 43]) ∧ Below w.heap.size w w') := by
  have hmx := h.max
  have hcap := h.cap
  unfold maxLen at hmx
  have hh := hide h
  have hwh := hide hw
  clear h hw
  go_enter Try.func14, Try.ntmps14
  go_wp2_with (go_at_call 9; refine (new_b w.heap.size w w (Below.refl _ _) (Nat.le_refl _)).mono ?_; rintro e w1 ⟨rfl, l1, s1⟩)
  go_loopw [10] (fun i wr => ∃ k : Nat, i = .int .i64 (k : Int) ∧ k ≤ D.length ∧ LedB w.heap.size w wr w.heap.size (D.take k)) (fun i _ => D.length - (intOf i).toNat)
  case atStart => exact ⟨0, rfl, Nat.zero_le _, l1⟩
  case round =>
    obtain ⟨k, rfl, hk, l2⟩ := hrel
    by_cases hlt : k < D.length
    · have hg : D[k]? = some D[k] := List.getElem?_eq_getElem hlt
      have hne : D ≠ [] := by rintro rfl; simp at hlt
      have htk : D.take (k + 1) = D.take k ++ [D[k]] := by rw [List.take_add_one, hg]; rfl
      have hsn := ok_snoc l2.ok D[k]
      rw [← htk] at hsn
      obtain ⟨hws, hwv⟩ := hwh.out D[k] (List.getElem_mem hlt)
      obtain ⟨q, o, rfl, hq, hl⟩ := (hh.out.later l2.bel).place hne
      obtain ⟨e0, e1⟩ := hl k _ hg
      have hcv : (D[k].2.size : Int) ≤ 9223372036854775807 := by unfold maxLen at hwv; omega
      clear hl hg
      generalize D[k] = p at *
      obtain ⟨s, v⟩ := p
      dsimp only at e0 e1 hws hwv hcv
      have hall := hide htk
      have hsi := hide hsn
      clear htk hsn
      obtain ⟨m, hL, hB1, hB2, hB3⟩ := l2
      have hbz := hL.lt
      have d1 := hL.c1
      have hLh := hide hL
      have ci := fun W => isslot_any s W
      have hqn : q < wr.heap.size := hq
      have nb : w.heap.size ≠ wr.heap.size := by omega
      have nq : q ≠ wr.heap.size := by omega
      by_cases hs : 0 ≤ s ∧ s < 1024
      · by_cases hv : v.size ≤ 64
        · by_cases hb : bh (D.take k) ≤ s
          · have hfit : fitC (D.take k) (s, v) := ⟨hs, hv, hb⟩
            have hOk := hsi.out.2 hfit
            have t1 : ((64 : Int) < (v.size : Int)) = False := by simp; omega
            have t2 : (s < bh (D.take k)) = False := by simp; omega
            have hins : ins (s, v) (D.take k) = D.take (k + 1) := by rw [hall.out]; exact ins_last ((bh_le_iff hs.1).1 hb)
            have hgn : gv (D.take k) s = none := gv_none.2 (fun p hp => by have := (bh_le_iff hs.1).1 hb p hp; omega)
            have ct := fun W hW => take_any w.heap.size m (D.take k) (s, v) W hW ⟨hs.1, hs.2, hv⟩ hgn
            rw [hins] at ct
            dsimp only at ct
            have cth := hide ct
            clear ct hins hgn hOk hfit
            have ci : ∀ W, Calls Try.prog 29 #[.int .i64 s] W fun e w' => e = .returned (.bool true) ∧ w' = W := fun W => by simpa [hs] using ci W
            go_wp2
            go_quiet ((go_at_call 29; exact Calls.quiet_of_same (ci _)))
            go_wp2_with (go_at_call 27; refine (cth.out _ (hLh.out.upd (S := fun _ => False) (((Upd.refl _ wr).alloc _).drewN nq) id (fun _ _ => id))).mono ?_; rintro e w5 ⟨rfl, t5⟩)
            go_round
            case rel => exact ⟨k + 1, by go_num, by omega, LedB.took t5 hB1 (by simp; omega) hB2 (belN (hB3.alloc (by omega) _) nq)⟩
            case measure => simp [intOf]; omega
          · have t1 : ((64 : Int) < (v.size : Int)) = False := by simp; omega
            have t2 : (s < bh (D.take k)) = True := by simp; omega
            have ci : ∀ W, Calls Try.prog 29 #[.int .i64 s] W fun e w' => e = .returned (.bool true) ∧ w' = W := fun W => by simpa [hs] using ci W
            go_wp2
            go_quiet ((go_at_call 29; exact Calls.quiet_of_same (ci _)))
            go_wp2
            go_ret2
            refine .inr ⟨fun hok => ?_, rfl, belN (hB3.alloc (by omega) _) nq⟩
            have := hsi.out.1 (hok.take (k + 1))
            obtain ⟨a1, a2, a3⟩ := this
            dsimp only at a1 a2 a3
            omega
        · have t1 : ((64 : Int) < (v.size : Int)) = True := by simp; omega
          have ci : ∀ W, Calls Try.prog 29 #[.int .i64 s] W fun e w' => e = .returned (.bool true) ∧ w' = W := fun W => by simpa [hs] using ci W
          go_wp2
          go_quiet ((go_at_call 29; exact Calls.quiet_of_same (ci _)))
          go_wp2
          go_ret2
          refine .inr ⟨fun hok => ?_, rfl, belN (hB3.alloc (by omega) _) nq⟩
          have := hsi.out.1 (hok.take (k + 1))
          obtain ⟨a1, a2, a3⟩ := this
          dsimp only at a1 a2 a3
          omega
      · have ci : ∀ W, Calls Try.prog 29 #[.int .i64 s] W fun e w' => e = .returned (.bool false) ∧ w' = W := fun W => by simpa [hs] using ci W
        go_wp2
        go_quiet ((go_at_call 29; exact Calls.quiet_of_same (ci _)))
        go_wp2
        go_ret2
        refine .inr ⟨fun hok => ?_, rfl, belN (hB3.alloc (by omega) _) nq⟩
        have := hsi.out.1 (hok.take (k + 1))
        obtain ⟨a1, a2, a3⟩ := this
        dsimp only at a1 a2 a3
        omega
    · obtain rfl : k = D.length := by omega
      rw [List.take_of_length_le (Nat.le_refl _)] at l2
      go_wp2
      go_ret2
      exact .inl ⟨l2.ok, rfl, l2⟩

end Go.Proofs.Ytjedpnhdpnknoab
