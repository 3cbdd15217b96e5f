import Derived.Test.YtacalgpdhgpmbaaGLc
import Derived.Test.YtacalgpdhgpmbaaGLp
namespace Go.Proofs.Ytacalgpdhgpmbaa
open Go.RowKit Go.Maps
set_option linter.unusedVariables false

/-- The cells behind operations. -/
def pl (L : List Cl) (P : List Opn) : List Cl := P.foldl (fun L o => dn L o.k o.s o.v) L
theorem pl_snoc (L : List Cl) (P : List Opn) (o : Opn) : pl L (P ++ [o]) = dn (pl L P) o.k o.s o.v := by simp [pl]
theorem pl_take (L : List Cl) {P : List Opn} {i : Nat} {o : Opn} (h : P[i]? = some o) : pl L (P.take (i + 1)) = dn (pl L (P.take i)) o.k o.s o.v := by
  rw [List.take_add_one, h]
  exact pl_snoc _ _ _
theorem Ok.pl {L : List Cl} (h : Ok L) : ∀ P : List Opn, Ok (pl L P) := by
  intro P
  induction P generalizing L with
  | nil => exact h
  | cons o r ih => exact ih (h.dn o.k o.s o.v)
theorem bh_mem {L : List Cl} (h : ∀ p ∈ L, 0 ≤ p.1) (hn : L ≠ []) : ∃ p ∈ L, p.1 + 1 = bh L := by
  induction L with
  | nil => exact absurd rfl hn
  | cons y r ih =>
    by_cases hr : r = []
    · subst hr
      have := h y (by simp)
      exact ⟨y, by simp, by simp [bh]; omega⟩
    · obtain ⟨p, hp, e⟩ := ih (fun q hq => h q (by simp [hq])) hr
      by_cases hc : y.1 + 1 ≤ bh r
      · exact ⟨p, by simp [hp], by simp [bh]; omega⟩
      · exact ⟨y, by simp, by simp [bh]; omega⟩
/-- The greatest slot below k that is taken. -/
def gs (L : List Cl) : Nat → Int
  | 0 => -1
  | k + 1 => if (gv L k).isSome then (k : Int) else gs L k
theorem gs_props (L : List Cl) : ∀ k : Nat, -1 ≤ gs L k ∧ gs L k < k ∧ (∀ s : Int, gs L k < s → s < k → gv L s = none) ∧ (0 ≤ gs L k → (gv L (gs L k)).isSome)
  | 0 => ⟨by simp [gs], by simp [gs], fun s h1 h2 => by simp [gs] at h1; omega, fun h => by simp [gs] at h⟩
  | k + 1 => by
    obtain ⟨h0, h1, h2, h3⟩ := gs_props L k
    unfold gs
    split
    · rename_i h
      exact ⟨by omega, by omega, fun s a b => by omega, fun _ => h⟩
    · rename_i h
      refine ⟨h0, by omega, fun s a b => ?_, h3⟩
      by_cases e : s = k
      · subst e
        simpa using h
      · exact h2 s a (by omega)
theorem gs_all {L : List Cl} (h : Ok L) : gs L 1024 = bh L - 1 := by
  obtain ⟨h0, h1, h2, h3⟩ := gs_props L 1024
  generalize gs L 1024 = g at *
  by_cases hn : L = []
  · subst hn
    have : ¬ 0 ≤ g := fun e => by have := h3 e; simp [gv] at this
    simp [bh]
    omega
  · obtain ⟨p, hp, e⟩ := bh_mem (fun p hp => (h.may p hp).1) hn
    have hg := gv_of_mem h.up hp
    have hm := h.may p hp
    by_cases c1 : g < p.1
    · have := h2 p.1 c1 (by omega)
      rw [this] at hg
      cases hg
    · by_cases c2 : 0 ≤ g
      · have h4 := h3 c2
        obtain ⟨v, hv⟩ := Option.isSome_iff_exists.1 h4
        have := bh_gt (gv_mem hv)
        dsimp only at this
        omega
      · omega
theorem Ops.later {W W' : World} {a : Option Addr} {P : List Opn} (h : Ops W a P) (b : Below W.heap.size W W') : Ops W' a P := fun i hi => by
  obtain ⟨q, o, e, c0, c1, c2⟩ := h i hi
  have hl := World.block_lt_of_cell? _ _ c0
  exact ⟨q, o, e, (b.cell (p := ⟨q, o + i * 3, none⟩) hl).trans c0, (b.cell (p := ⟨q, o + i * 3 + 1, none⟩) hl).trans c1, (b.cell (p := ⟨q, o + i * 3 + 2, none⟩) hl).trans c2⟩
theorem eql_same (r : Rs) (w : World) : (binOp .eql 53 (.agg #[.int .i64 r.1, .int .i64 r.2.1, .string r.2.2]) (.agg #[.int .i64 r.1, .int .i64 r.2.1, .string r.2.2])).run Try.prog w = .ok (.bool true) w := by rw [eql_res]; simp

end Go.Proofs.Ytacalgpdhgpmbaa

namespace Go.Proofs.Ytacalgpdhgpmbaa
open Go.RowKit
set_option linter.unusedVariables false

theorem len_dn (L : List Cl) (k s : Int) (v : ByteArray) : (dn L k s v).length = L.length + (if (wd L k s v).1 = 1 then 1 else 0) := by
  unfold dn
  split
  · rw [len_ins]
  · rfl
theorem wrote_any (r : Rs) (w : World) : Calls Try.prog 33 #[.agg #[.int .i64 r.1, .int .i64 r.2.1, .string r.2.2]] w fun e w' => e = .returned (.bool (decide (r.1 = 1))) ∧ Below w.heap.size w w' := by
  obtain ⟨a, b, c⟩ := r
  dsimp only
  by_cases h : a = 1
  · subst h
    go_enter Try.func33, Try.ntmps33
    go_wp2
    go_ret
    exact ⟨rfl, (Below.refl _ w).alloc (Nat.le_refl _) _⟩
  · have hb : (a == 1) = false := by simp [h]
    rw [decide_eq_false h]
    go_enter Try.func33, Try.ntmps33
    go_wp2
    go_ret
    exact ⟨rfl, (Below.refl _ w).alloc (Nat.le_refl _) _⟩
theorem cells_b (B : Nat) (w0 : World) (b : Nat) (L : List Cl) (w : World) (h : LedB B w0 w b L) :
    Calls Try.prog 31 #[.pointer (some ⟨b, 0, none⟩)] w fun e w' => ∃ v, e = .returned v ∧ OwnC w.heap.size w' v L ∧ Below w.heap.size w w' := by
  obtain ⟨m, h1, _⟩ := h
  exact cells_any b m L w h1
theorem neq_same (r : Rs) (w : World) : (binOp .neq 53 (.agg #[.int .i64 r.1, .int .i64 r.2.1, .string r.2.2]) (.agg #[.int .i64 r.1, .int .i64 r.2.1, .string r.2.2])).run Try.prog w = .ok (.bool false) w := by rw [neq_res]; simp
theorem wd_count (L : List Cl) : wd L 4 0 ByteArray.empty = (6, (L.length : Int), ByteArray.empty) := by simp [wd, ck]
theorem fits_count : (⟨4, 0, ByteArray.empty⟩ : Opn).fits := ⟨by dsimp only; decide, by dsimp only; decide, by dsimp only; decide⟩

theorem from_ok (D : List Cl) (a : Option Addr) (c : Nat) (hok : Ok D) (w : World) (h : SlC w (.slice a D.length c) D a c) :
    Calls Try.prog 21 #[.slice a D.length c] w fun e w' => e = .returned (.tuple #[.pointer (some ⟨w.heap.size, 0, none⟩), .int .i64 0]) ∧ LedB w.heap.size w w' w.heap.size D := by
  refine (from_any D a c w h (fun p hp => ?_)).mono ?_
  · have := hok.may p hp
    exact ⟨wf_i64 (by omega), by unfold maxLen; omega⟩
  · rintro e w' (⟨_, h1, h2⟩ | ⟨h1, _⟩)
    · exact ⟨h1, h2⟩
    · exact absurd hok h1
theorem same_own (A : List Cl) (a1 a2 : Option Addr) (c1 c2 : Nat) (w : World) (h1 : SlC w (.slice a1 A.length c1) A a1 c1) (h2 : SlC w (.slice a2 A.length c2) A a2 c2) :
    Calls Try.prog 23 #[.slice a1 A.length c1, .slice a2 A.length c2] w fun e w' => e = .returned (.bool true) ∧ Below w.heap.size w w' :=
  (samecells_any A A a1 a2 c1 c2 w h1 h2).mono (by
    rintro e w' ⟨rfl, k, rfl⟩
    exact ⟨by simp, belN (Below.refl _ w) k⟩)
set_option maxRecDepth 100000 in
set_option maxHeartbeats 1000000 in
theorem rises_walk (P : List Opn) (a : Option Addr) (cap : Nat) (w : World) (hP : Ops w a P) (hf : ∀ p ∈ P, p.fits) (hl : P.length * 32 ≤ 140737488351232) :
    Calls Try.prog 11 #[.slice a P.length cap] w fun e w' => e = .returned (.bool true) ∧ Below w.heap.size w w' := by
  have HP := hide hP
  have HF := hide hf
  clear hP hf
  have hlz : (P.length : Int) ≤ 9223372036854775807 := by omega
  go_enter Try.func11, Try.ntmps11
  go_wp2_with (first | (go_at_call 17; refine (new_b w.heap.size w w (Below.refl _ _) (Nat.le_refl _)).mono ?_; rintro e w1 ⟨rfl, l1, s1⟩; clear s1) | (go_at_call 16; refine (works_any _).mono ?_; rintro e w2 ⟨rfl, b2⟩; replace l1 := l1.on b2))
  go_loopw [5, 4] (fun i n wr => ∃ j : Nat, i = .int .i64 (j : Int) ∧ n = .int .i64 ((pl [] (P.take j)).length : Int) ∧ j ≤ P.length ∧ LedB w.heap.size w wr w.heap.size (pl [] (P.take j))) (fun i _ _ => P.length - (intOf i).toNat)
  case atStart => exact ⟨0, rfl, rfl, Nat.zero_le _, l1⟩
  case round =>
    obtain ⟨j, rfl, rfl, hj, l2⟩ := hrel
    by_cases hlt : j < P.length
    · have hg : P[j]? = some P[j] := List.getElem?_eq_getElem hlt
      have ht := pl_take [] hg
      have hfj := HF.out P[j] (List.getElem_mem hlt)
      obtain ⟨q, o, ea, c0, c1, c2⟩ := HP.out.later l2.bel j hlt
      generalize P[j] = p at *
      obtain ⟨k, s, v'⟩ := p
      subst ea
      dsimp only at c0 c1 c2 ht
      have hth := hide ht
      have hll := l2.ok.len_le
      generalize pl [] (P.take j) = L at *
      clear ht hg
      have hld := len_dn L k s v'
      have cw := fun W => wrote_any (wd L k s v') W
      have cdd := fun W hW => do_b w.heap.size w w.heap.size L k s v' hfj W hW
      have hn2 := fun W => neq_same (6, ((dn L k s v').length : Int), ByteArray.empty) W
      have cwd := fun W hW => would_b w.heap.size w w.heap.size (dn L k s v') 4 0 ByteArray.empty fits_count W hW
      rw [wd_count] at cwd
      have cl := fun W hW => len_b w.heap.size w w.heap.size (dn L k s v') W hW
      dsimp only at hn2 cwd
      generalize hdl : dn L k s v' = L' at *
      generalize wd L k s v' = r at *
      obtain ⟨rc, rs, rv⟩ := r
      dsimp only at cw cdd hld
      by_cases hr : rc = 1
      · subst hr
        simp only [if_pos] at hld
        have hc : ((L.length : Int) + 1) = (L'.length : Int) := by omega
        have hdh := hide hld
        generalize hNN : L'.length = N at *
        have HNN := hide hNN
        clear hld hNN
        go_wp2_with (first
          | (go_at_call 28; refine (cdd _ l2).mono ?_; rintro e w4 ⟨rfl, l4⟩)
          | (go_at_call 33; refine (cw _).mono ?_; rintro e w5 ⟨rfl, b5⟩; have l5 := l4.on b5)
          | (go_at_call 34; refine (cwd _ l5).mono ?_; rintro e w6 ⟨rfl, b6⟩; have l6 := (l5.on b6).on ((Below.refl _ w6).alloc (Nat.le_refl _) (.cells #[.int .i64 6, .int .i64 (N : Int), .string ByteArray.empty] 53)))
          | (go_at_call 30; refine (cl _ l6).mono ?_; rintro e w7 ⟨rfl, h7⟩; subst h7))
        go_round
        case rel => exact ⟨j + 1, by go_num, by rw [hth.out, HNN.out], by omega, by rw [hth.out]; exact l6⟩
        case measure => simp [intOf]; omega
      · have hld' : L'.length = L.length := by rw [hld]; simp [hr]
        rw [hld'] at hn2 cwd cl
        have hdh := hide hld'
        have hdf : decide (rc = 1) = false := decide_eq_false hr
        rw [hdf] at cw
        generalize hNN : L.length = N at *
        clear hld hld'
        go_wp2_with (first
          | (go_at_call 28; refine (cdd _ l2).mono ?_; rintro e w4 ⟨rfl, l4⟩)
          | (go_at_call 33; refine (cw _).mono ?_; rintro e w5 ⟨rfl, b5⟩; have l5 := l4.on b5)
          | (go_at_call 34; refine (cwd _ l5).mono ?_; rintro e w6 ⟨rfl, b6⟩; have l6 := (l5.on b6).on ((Below.refl _ w6).alloc (Nat.le_refl _) (.cells #[.int .i64 6, .int .i64 (N : Int), .string ByteArray.empty] 53)))
          | (go_at_call 30; refine (cl _ l6).mono ?_; rintro e w7 ⟨rfl, h7⟩; subst h7))
        go_round
        case rel => exact ⟨j + 1, by go_num, by rw [hth.out, hdh.out], by omega, by rw [hth.out]; exact l6⟩
        case measure => simp [intOf]; omega
    · obtain rfl : j = P.length := by omega
      rw [List.take_of_length_le (Nat.le_refl _)] at l2 ⊢
      generalize pl [] P = L at *
      have hok := l2.ok
      have hll := hok.len_le
      have hoh := hide hok
      clear hok
      have cs := cells_b w.heap.size w w.heap.size L wr l2
      go_wp2_with (go_at_call 31; refine cs.mono ?_; rintro e w3 ⟨v, rfl, o3, b3⟩; obtain ⟨a3, c3, hsl, hz3⟩ := o3.sl; have hv3 := hsl.form; subst hv3; have HSL := hide hsl; have HO3 := hide o3; have hcap3 := hsl.cap; have hmx3 := hsl.max; clear hsl o3 hz3)
      have l3 := l2.on b3
      unfold maxLen at hmx3
      go_loopw [8] (fun i ws => ∃ k n : Nat, i = .int .i64 (k : Int) ∧ k ≤ L.length ∧ ws = w3.drewN n) (fun i _ => L.length - (intOf i).toNat)
      case atStart => exact ⟨0, 0, rfl, Nat.zero_le _, rfl⟩
      case round =>
        obtain ⟨k, n, rfl, hk, rfl⟩ := hrel
        by_cases hlt2 : k < L.length
        · have hne : L ≠ [] := by rintro rfl; simp at hlt2
          obtain ⟨q, o, rfl, hq, hle⟩ := HSL.out.place hne
          have hd1 := some_atC hlt2
          have hmem := List.mem_of_getElem? hd1
          have hmay := hoh.out.may _ hmem
          obtain ⟨e0, e1⟩ := hle k _ hd1
          cases k with
          | zero =>
            generalize atC L 0 = p at *
            obtain ⟨s, v⟩ := p
            dsimp only at e0 e1 hmay
            have t1 : (s < 0) = False := by simp; omega
            have t2 : ((1024 : Int) ≤ s) = False := by simp; omega
            have t3 : ((64 : Int) < (v.size : Int)) = False := by simp; omega
            simp only [Nat.zero_mul, Nat.add_zero] at e0 e1
            go_wp2
            go_quiet (fail)
            go_wp2
            go_round
            case rel => exact ⟨1, n + nq, by go_num, by omega, by simp⟩
            case measure => simp [intOf]; omega
          | succ k =>
            have hd0 := some_atC (A := L) (k := k) (by omega)
            obtain ⟨e2, e3⟩ := hle k _ hd0
            have hup := (List.pairwise_iff_getElem.1 hoh.out.up) k (k + 1) (by omega) hlt2 (by omega)
            rw [show L[k] = atC L k by simp [atC, show k < L.length by omega], show L[k + 1] = atC L (k + 1) by simp [atC, hlt2]] at hup
            generalize atC L (k + 1) = p at *
            generalize atC L k = p0 at *
            obtain ⟨s, v⟩ := p
            obtain ⟨s0, v0⟩ := p0
            dsimp only at e0 e1 e2 hmay hup
            have t1 : (s < 0) = False := by simp; omega
            have t2 : ((1024 : Int) ≤ s) = False := by simp; omega
            have t3 : ((64 : Int) < (v.size : Int)) = False := by simp; omega
            have t4 : (s ≤ s0) = False := by simp; omega
            clear hle hd0 hd1 e3 hup hmay
            go_wp2
            go_quiet (fail)
            go_wp2
            go_round
            case rel => exact ⟨k + 1 + 1, n + nq, by go_num, by omega, by simp⟩
            case measure => simp [intOf]; omega
        · obtain rfl : k = L.length := by omega
          have cf := from_ok L a3 c3 hoh.out
          have hs4 := hide (HSL.out.later (belN (Below.refl _ w3) n))
          go_wp2_with (first
            | (go_at_call 21; refine (cf _ hs4.out).mono ?_; rintro e w5 ⟨rfl, l5⟩)
            | (go_at_call 31; refine (cells_b _ _ _ L _ l5).mono ?_; rintro e w6 ⟨v, rfl, o6, b6⟩; obtain ⟨a6, c6, hsl6, hz6⟩ := o6.sl; have hv6 := hsl6.form; subst hv6)
            | (go_at_call 23; refine (same_own L _ _ _ _ _ hsl6 ((hs4.out.later (l5.bel.mono (by simp))).later b6)).mono ?_; rintro e w7 ⟨rfl, b7⟩))
          go_ret
          refine ⟨rfl, ?_⟩
          have h1 := belN l3.bel n
          exact (h1.trans (l5.bel.mono h1.size)).trans ((b6.mono (by have := h1.size; have := l5.bel.size; omega)).trans (b7.mono (by have := h1.size; have := l5.bel.size; have := b6.size; omega)))

end Go.Proofs.Ytacalgpdhgpmbaa

namespace Go.Proofs.Ytacalgpdhgpmbaa
open Go.RowKit
set_option linter.unusedVariables false

theorem map_ne_cells {w : World} {j b : Nat} {n : Nat} {L : List Cl} {u : Value} {i : Nat} (h : Own w j n L) (hc : w.cell? ⟨b, i, none⟩ = some u) : j ≠ b := by
  obtain ⟨es, c, hb, _⟩ := h
  rintro rfl
  simp [World.cell?, hb] at hc
/-- Two ledgers side by side, their memory from B on. -/
def Two (B : Nat) (w0 w : World) (b1 : Nat) (L1 : List Cl) (b2 : Nat) (L2 : List Cl) : Prop :=
  ∃ m1 m2, Led w b1 m1 L1 ∧ Led w b2 m2 L2 ∧ B ≤ b1 ∧ B ≤ b2 ∧ (∀ j, m1 = some j → B ≤ j) ∧ (∀ j, m2 = some j → B ≤ j) ∧ b1 ≠ b2 ∧ (∀ j, m1 = some j → m2 ≠ some j) ∧ Below B w0 w
theorem Two.swap {B b1 b2 : Nat} {w0 w : World} {L1 L2 : List Cl} (h : Two B w0 w b1 L1 b2 L2) : Two B w0 w b2 L2 b1 L1 := by
  obtain ⟨m1, m2, l1, l2, h1, h2, h3, h4, h5, h6, h7⟩ := h
  exact ⟨m2, m1, l2, l1, h2, h1, h4, h3, h5.symm, fun j e e' => h6 j e' e, h7⟩
theorem Two.fst {B b1 b2 : Nat} {w0 w : World} {L1 L2 : List Cl} (h : Two B w0 w b1 L1 b2 L2) : LedB B w0 w b1 L1 := by
  obtain ⟨m1, m2, l1, l2, h1, h2, h3, h4, h5, h6, h7⟩ := h
  exact ⟨m1, l1, h1, h3, h7⟩
theorem Two.snd {B b1 b2 : Nat} {w0 w : World} {L1 L2 : List Cl} (h : Two B w0 w b1 L1 b2 L2) : LedB B w0 w b2 L2 := h.swap.fst
theorem Two.bel {B b1 b2 : Nat} {w0 w : World} {L1 L2 : List Cl} (h : Two B w0 w b1 L1 b2 L2) : Below B w0 w := h.fst.bel
theorem Two.on {B b1 b2 : Nat} {w0 w w' : World} {L1 L2 : List Cl} (h : Two B w0 w b1 L1 b2 L2) (hb : Below w.heap.size w w') : Two B w0 w' b1 L1 b2 L2 := by
  obtain ⟨m1, m2, l1, l2, h1, h2, h3, h4, h5, h6, h7⟩ := h
  exact ⟨m1, m2, l1.upd (S := fun _ => False) (Upd.of_below hb) id (fun _ _ => id), l2.upd (S := fun _ => False) (Upd.of_below hb) id (fun _ _ => id), h1, h2, h3, h4, h5, h6, h7.trans (hb.mono (by have := l1.lt; omega))⟩
/-- A new ledger beside one. -/
theorem Two.new {B b1 : Nat} {w0 w w' : World} {L1 : List Cl} {b2 : Nat} {m2 : Option Nat} {L2 : List Cl} (h : LedB B w0 w b1 L1) (l2 : Led w' b2 m2 L2) (hb : Below w.heap.size w w') (h2 : w.heap.size ≤ b2) (h3 : ∀ j, m2 = some j → w.heap.size ≤ j) : Two B w0 w' b1 L1 b2 L2 := by
  obtain ⟨m1, l1, k1, k2, k3⟩ := h
  have hlt := l1.lt
  refine ⟨m1, m2, l1.upd (S := fun _ => False) (Upd.of_below hb) id (fun _ _ => id), l2, k1, by omega, k2, fun j e => by have := h3 j e; omega, by omega, fun j e e' => ?_, k3.trans (hb.mono (by omega))⟩
  have := h3 j e'
  have := l1.mlt e
  omega
/-- What Do of the first does to both; S: blocks that stay as they are. -/
theorem Two.took {B b1 b2 : Nat} {w0 w w' : World} {m1 m2 : Option Nat} {L1 L1' L2 : List Cl} (t : Took w b1 m1 L1' w') (l1 : Led w b1 m1 L1) (l2 : Led w b2 m2 L2) (h1 : B ≤ b1) (h2 : B ≤ b2) (h3 : ∀ j, m1 = some j → B ≤ j) (h4 : ∀ j, m2 = some j → B ≤ j) (h5 : b1 ≠ b2) (h6 : ∀ j, m1 = some j → m2 ≠ some j) (h7 : Below B w0 w) : Two B w0 w' b1 L1' b2 L2 := by
  obtain ⟨m1', hl, hmm, hu⟩ := t
  have hl2 : Led w' b2 m2 L2 := l2.upd hu (by
    rintro (e | e)
    · exact h5 e.symm
    · exact map_ne_cells (l1.sm _ e).2 l2.c0 rfl) (fun j e => by
    rintro (e' | e')
    · exact map_ne_cells (l2.sm j e).2 l1.c0 e'
    · exact h6 j e' e)
  refine ⟨m1', m2, hl, hl2, h1, h2, fun j e => ?_, h4, h5, fun j e e' => ?_, h7.trans (hu.below (by have := l1.lt; omega) (fun k hk => ?_))⟩
  · rcases hmm with h | ⟨i, h, hi⟩
    · exact h3 j (h ▸ e)
    · rw [h] at e; cases e; have := l1.lt; omega
  · rcases hmm with h | ⟨i, h, hi⟩
    · exact h6 j (h ▸ e) e'
    · rw [h] at e; cases e; have := l2.mlt e'; omega
  · rcases hk with rfl | hk
    · exact h1
    · exact h3 k hk
/-- Do of the first; a row of cells that is none of the ledger's own stays. -/
theorem do_2 (B : Nat) (w0 : World) (b1 b2 : Nat) (L1 L2 : List Cl) (k s : Int) (v : ByteArray) (hf : (⟨k, s, v⟩ : Opn).fits) (w : World) (h : Two B w0 w b1 L1 b2 L2) : Calls Try.prog 28 #[.pointer (some ⟨b1, 0, none⟩), .agg #[.int .i64 k, .int .i64 s, .string v]] w fun e w' => e = .returned (.agg #[.int .i64 (wd L1 k s v).1, .int .i64 (wd L1 k s v).2.1, .string (wd L1 k s v).2.2]) ∧ Two B w0 w' b1 (dn L1 k s v) b2 L2 ∧ (∀ g i u, g ≠ b1 → w.cell? ⟨g, i, none⟩ = some u → w'.cell? ⟨g, i, none⟩ = some u) ∧ w.heap.size ≤ w'.heap.size := by
  obtain ⟨m1, m2, l1, l2, h1, h2, h3, h4, h5, h6, h7⟩ := h
  refine (do3 b1 m1 L1 k s v hf w l1).mono fun e w' ⟨he, t⟩ => ⟨he, Two.took t l1 l2 h1 h2 h3 h4 h5 h6 h7, fun g i u hg hc => ?_, t.upd.size⟩
  refine (t.upd.cell (p := ⟨g, i, none⟩) (World.block_lt_of_cell? _ _ hc) ?_).trans hc
  rintro (e | e)
  · exact hg e
  · exact map_ne_cells (l1.sm _ e).2 hc rfl
/-- An operation that changes nothing. -/
def qt (k s : Int) (v : ByteArray) : Bool := decide (k = 3 ∨ k = 4 ∨ ck k s v ≠ 0)
theorem dn_quiet {k s : Int} {v : ByteArray} (h : qt k s v = true) (L : List Cl) : dn L k s v = L := by
  have h : k = 3 ∨ k = 4 ∨ ck k s v ≠ 0 := by simpa [qt] using h
  have : (wd L k s v).1 ≠ 1 := by
    unfold wd
    by_cases hc : ck k s v = 0
    · rcases h with rfl | rfl | h
      · simp [hc]; cases gv L s <;> simp
      · simp [hc]
      · exact absurd hc h
    · simp [hc]
  simp [dn, this]
theorem quiet_any (k s : Int) (v : ByteArray) (hf : (⟨k, s, v⟩ : Opn).fits) (w : World) : Calls Try.prog 32 #[.agg #[.int .i64 k, .int .i64 s, .string v]] w fun e w' => e = .returned (.bool (qt k s v)) ∧ Below w.heap.size w w' := by
  have cc := fun W => check3 k s v hf W
  by_cases h3 : k = 3
  · subst h3
    have e : qt 3 s v = true := by simp [qt]
    rw [e]
    go_enter Try.func32, Try.ntmps32
    go_wp2
    go_ret
    exact ⟨rfl, (Below.refl _ w).alloc (Nat.le_refl _) _⟩
  · by_cases h4 : k = 4
    · subst h4
      have e : qt 4 s v = true := by simp [qt]
      rw [e]
      go_enter Try.func32, Try.ntmps32
      go_wp2
      go_ret
      exact ⟨rfl, (Below.refl _ w).alloc (Nat.le_refl _) _⟩
    · have b3 : (k == 3) = false := by simp [h3]
      have b4 : (k == 4) = false := by simp [h4]
      by_cases hc : ck k s v = 0
      · have e : qt k s v = false := by simp [qt, h3, h4, hc]
        rw [e]
        rw [hc] at cc
        go_enter Try.func32, Try.ntmps32
        go_wp2_with (go_at_call 14; refine (cc _).mono ?_; rintro e w1 ⟨rfl, hb⟩)
        go_ret
        exact ⟨rfl, ((Below.refl w.heap.size w).alloc (Nat.le_refl _) _).trans (hb.mono (by simp))⟩
      · have e : qt k s v = true := by simp [qt, hc]
        rw [e]
        have bc : (ck k s v == 0) = false := by simp [hc]
        have bc' : (ck k s v != 0) = true := by simp [hc]
        go_enter Try.func32, Try.ntmps32
        go_wp2_with (go_at_call 14; refine (cc _).mono ?_; rintro e w1 ⟨rfl, hb⟩)
        all_goals
          go_ret
          exact ⟨rfl, ((Below.refl w.heap.size w).alloc (Nat.le_refl _) _).trans (hb.mono (by simp))⟩
/-- The mathematics of P4.10. -/
theorem gv_dn {L : List Cl} (h : Ok L) (k s : Int) (v : ByteArray) (t : Int) (ht : (wd L k s v).1 = 1 → (wd L k s v).2.1 ≠ t) : gv (dn L k s v) t = gv L t := by
  unfold dn
  split
  · rename_i e
    obtain ⟨_, _, _, _, h5⟩ := wd_written h e
    rw [gv_ins h5, if_neg (ht e)]
  · rfl
theorem wd_slot {L : List Cl} {k s : Int} {v : ByteArray} (hk : k = 1 ∨ k = 3) (h : (wd L k s v).1 = 1) : (wd L k s v).2.1 = s := by
  unfold wd at h ⊢
  by_cases hc : ck k s v = 0
  · rcases hk with rfl | rfl
    · simp only [hc] at h ⊢
      cases hg : gv L s <;> simp [hg] at h ⊢
    · simp only [hc] at h ⊢
      cases hg : gv L s <;> simp [hg] at h ⊢
  · simp [hc] at h
theorem wd_other {L L' : List Cl} {k s : Int} {v : ByteArray} (hk : k = 1 ∨ k = 3) (h : gv L' s = gv L s) : wd L' k s v = wd L k s v := by
  unfold wd
  rw [h]
  rcases hk with rfl | rfl <;> simp
theorem apart_math {L : List Cl} (h : Ok L) {k s : Int} {v : ByteArray} {k' s' : Int} {v' : ByteArray} (hk : k = 1 ∨ k = 3) (hk' : k' = 1 ∨ k' = 3) (hs : s ≠ s') :
    wd (dn L k s v) k' s' v' = wd L k' s' v' ∧ wd (dn L k' s' v') k s v = wd L k s v ∧ dn (dn L k s v) k' s' v' = dn (dn L k' s' v') k s v := by
  have e1 : wd (dn L k s v) k' s' v' = wd L k' s' v' := wd_other hk' (gv_dn h k s v s' (fun e => by rw [wd_slot hk e]; exact hs))
  have e2 : wd (dn L k' s' v') k s v = wd L k s v := wd_other hk (gv_dn h k' s' v' s (fun e => by rw [wd_slot hk' e]; exact hs.symm))
  refine ⟨e1, e2, ?_⟩
  refine up_ext ((h.dn k s v).dn k' s' v').up ((h.dn k' s' v').dn k s v).up (fun p => ?_)
  have u1 : dn (dn L k s v) k' s' v' = if (wd L k' s' v').1 = 1 then ins (wd L k' s' v').2 (dn L k s v) else dn L k s v := by
    rw [← e1]; rfl
  have u2 : dn (dn L k' s' v') k s v = if (wd L k s v).1 = 1 then ins (wd L k s v).2 (dn L k' s' v') else dn L k' s' v' := by
    rw [← e2]; rfl
  rw [u1, u2]
  unfold dn
  by_cases c1 : (wd L k s v).1 = 1 <;> by_cases c2 : (wd L k' s' v').1 = 1 <;> simp [c1, c2, mem_ins]
  constructor
  · rintro (h | h | h) <;> simp [h]
  · rintro (h | h | h) <;> simp [h]

end Go.Proofs.Ytacalgpdhgpmbaa

namespace Go.Proofs.Ytacalgpdhgpmbaa
open Go.RowKit Go.Maps
set_option linter.unusedVariables false

theorem size_zero {a : ByteArray} (h : a.size = 0) : a = ByteArray.empty := by
  obtain ⟨⟨x⟩⟩ := a
  cases x with
  | nil => rfl
  | cons y r => simp [ByteArray.size] at h
set_option maxRecDepth 100000 in
set_option maxHeartbeats 1000000 in
theorem refcheck (k s : Int) (v : ByteArray) (hf : (⟨k, s, v⟩ : Opn).fits) (w : World) : Calls Try.prog 15 #[.agg #[.int .i64 k, .int .i64 s, .string v]] w fun e w' => e = .returned (.int .i64 (ck k s v)) ∧ Below w.heap.size w w' := by
  have hv := hf.vl
  dsimp only at hv
  have hsz : (v.size : Int) ≤ 9223372036854775807 := by unfold maxLen at hv; omega
  clear hf hv
  by_cases k1 : k = 1
  · subst k1
    by_cases hs : s < 0 ∨ 1024 ≤ s
    · have e1 : ck 1 s v = 41 := by simp [ck, hs]
      rw [e1]
      clear e1
      go_enter Try.func15, Try.ntmps15
      go_wp2
      all_goals
        go_ret
        exact ⟨by first | rfl | (exfalso; omega) | (exfalso; simp_all), (Below.refl _ w).alloc (Nat.le_refl _) _⟩
    · have e1 : ck 1 s v = if 64 < v.size then 42 else 0 := by simp [ck, hs]
      rw [e1]
      clear e1
      by_cases hv : 64 < v.size
      · rw [if_pos hv]
        have hv' : ((64 : Int) < v.size) := by omega
        go_enter Try.func15, Try.ntmps15
        go_wp2
        all_goals
          go_ret
          exact ⟨by first | rfl | (exfalso; omega) | (exfalso; simp_all), (Below.refl _ w).alloc (Nat.le_refl _) _⟩
      · rw [if_neg hv]
        have hv' : ¬ ((64 : Int) < v.size) := by omega
        go_enter Try.func15, Try.ntmps15
        go_wp2
        all_goals
          go_ret
          exact ⟨by first | rfl | (exfalso; omega) | (exfalso; simp_all), (Below.refl _ w).alloc (Nat.le_refl _) _⟩
  by_cases k2 : k = 2
  · subst k2
    by_cases hs : s ≠ 0
    · have e1 : ck 2 s v = 41 := by simp [ck, hs]
      rw [e1]
      clear e1
      have hb : (s != 0) = true := by simp [hs]
      go_enter Try.func15, Try.ntmps15
      go_wp2
      all_goals
        go_ret
        exact ⟨by first | rfl | (exfalso; omega) | (exfalso; simp_all), (Below.refl _ w).alloc (Nat.le_refl _) _⟩
    · have e1 : ck 2 s v = if 64 < v.size then 42 else 0 := by simp [ck, hs]
      rw [e1]
      clear e1
      have hs : s = 0 := by omega
      subst hs
      by_cases hv : 64 < v.size
      · rw [if_pos hv]
        have hv' : ((64 : Int) < v.size) := by omega
        go_enter Try.func15, Try.ntmps15
        go_wp2
        all_goals
          go_ret
          exact ⟨by first | rfl | (exfalso; omega) | (exfalso; simp_all), (Below.refl _ w).alloc (Nat.le_refl _) _⟩
      · rw [if_neg hv]
        have hv' : ¬ ((64 : Int) < v.size) := by omega
        go_enter Try.func15, Try.ntmps15
        go_wp2
        all_goals
          go_ret
          exact ⟨by first | rfl | (exfalso; omega) | (exfalso; simp_all), (Below.refl _ w).alloc (Nat.le_refl _) _⟩
  by_cases k3 : k = 3
  · subst k3
    by_cases hs : s < 0 ∨ 1024 ≤ s
    · have e1 : ck 3 s v = 41 := by simp [ck, hs]
      rw [e1]
      clear e1
      go_enter Try.func15, Try.ntmps15
      go_wp2
      all_goals
        go_ret
        exact ⟨by first | rfl | (exfalso; omega) | (exfalso; simp_all), (Below.refl _ w).alloc (Nat.le_refl _) _⟩
    · have e1 : ck 3 s v = if 0 < v.size then 42 else 0 := by simp [ck, hs]
      rw [e1]
      clear e1
      by_cases hv : 0 < v.size
      · rw [if_pos hv]
        have hv' : ¬ (v.toList = []) := fun e => by
          rw [ByteArray.toList_eq] at e
          have : v.size = 0 := by simp [ByteArray.size, ← Array.length_toList, e]
          omega
        go_enter Try.func15, Try.ntmps15
        go_wp2
        all_goals
          go_ret
          exact ⟨by first | rfl | (exfalso; omega) | (exfalso; simp_all), (Below.refl _ w).alloc (Nat.le_refl _) _⟩
      · rw [if_neg hv]
        have hv' : v = ByteArray.empty := size_zero (by omega)
        subst hv'
        go_enter Try.func15, Try.ntmps15
        go_wp2
        all_goals
          go_ret
          exact ⟨by first | rfl | (exfalso; omega) | (exfalso; simp_all), (Below.refl _ w).alloc (Nat.le_refl _) _⟩
  by_cases k4 : k = 4
  · subst k4
    by_cases hs : s ≠ 0
    · have e1 : ck 4 s v = 41 := by simp [ck, hs]
      rw [e1]
      clear e1
      have hb : (s != 0) = true := by simp [hs]
      go_enter Try.func15, Try.ntmps15
      go_wp2
      all_goals
        go_ret
        exact ⟨by first | rfl | (exfalso; omega) | (exfalso; simp_all), (Below.refl _ w).alloc (Nat.le_refl _) _⟩
    · have e1 : ck 4 s v = if 0 < v.size then 42 else 0 := by simp [ck, hs]
      rw [e1]
      clear e1
      have hs : s = 0 := by omega
      subst hs
      by_cases hv : 0 < v.size
      · rw [if_pos hv]
        have hv' : ¬ (v.toList = []) := fun e => by
          rw [ByteArray.toList_eq] at e
          have : v.size = 0 := by simp [ByteArray.size, ← Array.length_toList, e]
          omega
        go_enter Try.func15, Try.ntmps15
        go_wp2
        all_goals
          go_ret
          exact ⟨by first | rfl | (exfalso; omega) | (exfalso; simp_all), (Below.refl _ w).alloc (Nat.le_refl _) _⟩
      · rw [if_neg hv]
        have hv' : v = ByteArray.empty := size_zero (by omega)
        subst hv'
        go_enter Try.func15, Try.ntmps15
        go_wp2
        all_goals
          go_ret
          exact ⟨by first | rfl | (exfalso; omega) | (exfalso; simp_all), (Below.refl _ w).alloc (Nat.le_refl _) _⟩
  have e1 : ck k s v = 40 := by simp [ck, k1, k2, k3, k4]
  rw [e1]
  have b1 : (k == 1) = false := by simp [k1]
  have b2 : (k == 2) = false := by simp [k2]
  have b3 : (k == 3) = false := by simp [k3]
  have b4 : (k == 4) = false := by simp [k4]
  go_enter Try.func15, Try.ntmps15
  go_wp2
  all_goals
    go_ret
    exact ⟨rfl, (Below.refl _ w).alloc (Nat.le_refl _) _⟩

set_option maxRecDepth 100000 in
set_option maxHeartbeats 1000000 in
theorem checks_walk (o : Opn) (w : World) (ho : o.fits) : Calls Try.prog 3 #[o.val] w fun e w' => e = .returned (.bool true) ∧ Below w.heap.size w w' := by
  obtain ⟨k, s, v⟩ := o
  dsimp only [Opn.val]
  have KS : ∀ v', Below (w.heap.size + 1) (w.alloc (.cells #[.int .i64 k, .int .i64 s, .string v] 23)) v' → (Below (w.heap.size + 1) (w.alloc (.cells #[.int .i64 k, .int .i64 s, .string v] 23)) v' ∧ v'.cell? ⟨w.heap.size, 0, none⟩ = some (.int .i64 k) ∧ v'.cell? ⟨w.heap.size, 1, none⟩ = some (.int .i64 s) ∧ v'.cell? ⟨w.heap.size, 2, none⟩ = some (.string v)) := fun v' b => by
    refine ⟨b, (b.cell (p := ⟨w.heap.size, 0, none⟩) (Nat.lt_succ_self _)).trans ?_, (b.cell (p := ⟨w.heap.size, 1, none⟩) (Nat.lt_succ_self _)).trans ?_, (b.cell (p := ⟨w.heap.size, 2, none⟩) (Nat.lt_succ_self _)).trans ?_⟩
    all_goals go_simp
  have KH := hide KS
  clear KS
  generalize hck : ck k s v = c
  have c1 := fun W => check3 k s v ho W
  have c2 := fun W => refcheck k s v ho W
  rw [hck] at c1 c2
  clear hck
  go_enter Try.func3, Try.ntmps3
  go_wp2_with fail
  go_region_held3 (fun v' => Below (w.heap.size + 1) (w.alloc (.cells #[.int .i64 k, .int .i64 s, .string v] 23)) v' ∧ v'.cell? ⟨w.heap.size, 0, none⟩ = some (.int .i64 k) ∧ v'.cell? ⟨w.heap.size, 1, none⟩ = some (.int .i64 s) ∧ v'.cell? ⟨w.heap.size, 2, none⟩ = some (.string v))
    (first | exact KH.out _ (Below.refl _ _).drew | exact KH.out _ (by assumption))
    (first
      | (go_at_call 14; refine (c1 _).mono ?_; rintro e v' ⟨rfl, bv⟩; have bb := Below.trans (B := w.heap.size + 1) (a := w.alloc (.cells #[.int .i64 k, .int .i64 s, .string v] 23)) (by first | assumption | exact (Below.refl _ _).drew) (bv.mono (by first | (simp; done) | (have := Below.size (by assumption : Below (w.heap.size + 1) (w.alloc (.cells #[.int .i64 k, .int .i64 s, .string v] 23)) _); simpa using this))))
      | (go_at_call 15; refine (c2 _).mono ?_; rintro e v' ⟨rfl, bv⟩; have bb := Below.trans (B := w.heap.size + 1) (a := w.alloc (.cells #[.int .i64 k, .int .i64 s, .string v] 23)) (by first | assumption | exact (Below.refl _ _).drew) (bv.mono (by first | (simp; done) | (have := Below.size (by assumption : Below (w.heap.size + 1) (w.alloc (.cells #[.int .i64 k, .int .i64 s, .string v] 23)) _); simpa using this))))
      | (go_at_call 16; refine (works_any _).mono ?_; rintro e v' ⟨rfl, bv⟩; have bb := Below.trans (B := w.heap.size + 1) (a := w.alloc (.cells #[.int .i64 k, .int .i64 s, .string v] 23)) (by first | assumption | exact (Below.refl _ _).drew) (bv.mono (by first | (simp; done) | (have := Below.size (by assumption : Below (w.heap.size + 1) (w.alloc (.cells #[.int .i64 k, .int .i64 s, .string v] 23)) _); simpa using this)))))
  go_wp2
  go_ret
  exact ⟨rfl, ((Below.refl w.heap.size w).alloc (Nat.le_refl _) _).trans (Below.mono (by assumption) (Nat.le_succ _))⟩

end Go.Proofs.Ytacalgpdhgpmbaa
