import Derived.Test.YtdfoafpcoigklaaJc
import Derived.Test.YtdfoafpcoigklaaJd
namespace Go.Proofs.Ytdfoafpcoigklaa
open Go.RowKit Go.Maps
open Classical
set_option linter.unusedVariables false
set_option linter.unusedSimpArgs false

theorem size6_any (k : Int) (hk : (Lit.int .i64 k).wf = true) (w : World) :
    Calls Try.prog 44 #[.int .i64 k] w fun e w' => ∃ r : Int, e = .returned (.int .i64 r) ∧ (1 ≤ r ∧ r ≤ 256) ∧ w' = w := by
  have cc := hide (within6_any k 255 hk (by omega) (by omega) w)
  go_enter Try.func44, Try.ntmps44
  go_wp2_with fail
  refine cc.out.mono ?_
  rintro e w1 ⟨r, rfl, ⟨p0, p1⟩, hw⟩
  subst hw
  go_wp2
  go_ret
  exact ⟨_, rfl, by omega, rfl⟩
theorem ckA_fst : ∀ (r past : List En), (ckA past r).1 = 0 → (ckA past r).2 = 0
  | [], past, _ => rfl
  | e :: r, past, h => by
    rw [ckA] at h ⊢
    by_cases h1 : er past e = 0
    · rw [if_neg (by simp [h1])] at h ⊢
      exact ckA_fst r _ h
    · rw [if_pos h1] at h
      exact absurd h h1
theorem chk_snd {L : List En} {room : Int} (h : (chk L room).1 = 0) : (chk L room).2 = 0 := by
  obtain ⟨z1, z2, z3, z4⟩ := chk_zero h
  have hr : ¬ (room < 1 ∨ 256 < room) := by omega
  have hr2 : ¬ (room < (L.length : Int)) := by omega
  rw [chk, if_neg hr, if_neg hr2] at h ⊢
  exact ckA_fst _ _ h
theorem ckA_ok : ∀ (n : Nat) (L : List En) (j : Nat), L.length - j = n → (ckA (L.take j) (L.drop j)).1 = 0 → ∀ (i : Nat) (e : En), j ≤ i → L[i]? = some e → er (L.take i) e = 0 := by
  intro n
  induction n with
  | zero => intro L j hn h i e hi he; have := (List.getElem?_eq_some_iff.1 he).1; omega
  | succ n ih =>
    intro L j hn h i e hi he
    have hj : j < L.length := by omega
    have hg : L[j]? = some L[j] := List.getElem?_eq_getElem hj
    rw [ckA_at hg] at h
    by_cases hz : er (L.take j) L[j] = 0
    · rw [if_neg (by simp [hz])] at h
      by_cases hij : i = j
      · subst hij
        rw [hg] at he
        cases he
        exact hz
      · exact ih L (j + 1) (by omega) h i e (by omega) he
    · rw [if_pos hz] at h
      exact absurd h hz
theorem chk_ok {L : List En} {room : Int} (h : (chk L room).1 = 0) {i : Nat} {e : En} (he : L[i]? = some e) : er (L.take i) e = 0 := by
  obtain ⟨z1, z2, z3, z4⟩ := chk_zero h
  have hr : ¬ (room < 1 ∨ 256 < room) := by omega
  have hr2 : ¬ (room < (L.length : Int)) := by omega
  rw [chk, if_neg hr, if_neg hr2] at h
  exact ckA_ok L.length L 0 rfl (by simpa using h) i e (Nat.zero_le _) he
/-- An entry that is there already. -/
theorem er_there {L : List En} {room : Int} (h : (chk L room).1 = 0) {i : Nat} {x : En} (hx : L[i]? = some x) : er L x = 64 := by
  have hc := (er_zero (chk_ok h hx)).1
  have ht : tw L x = true := by
    rw [tw, List.any_eq_true]
    exact ⟨x, List.mem_of_getElem? hx, by simp⟩
  rw [er, hc, ht]
  simp
def xG : En := ⟨0, 1, ⟨4, 0, ⟨#[]⟩⟩⟩
theorem xG_fits : xG.fits := ⟨by decide, by decide, ⟨by decide, by decide, by unfold maxLen; decide⟩⟩
set_option maxRecDepth 100000 in
set_option maxHeartbeats 4000000 in
theorem grows6_walk (R : List En) (a : Option Addr) (n c : Nat) (k1 k2 : Int) (hk1 : (Lit.int .i64 k1).wf = true) (hk2 : (Lit.int .i64 k2).wf = true) (w : World) (h : SlY yW w a n c R) (hf : ∀ e ∈ R, e.fits) :
    Calls Try.prog 10 #[.slice a n c, .int .i64 k1, .int .i64 k2] w fun e w' => e = .returned (.bool true) ∧ Below w.heap.size w w' := by
  have HK1 := hide hk1
  have HK2 := hide hk2
  have H := hide h
  have HF := hide hf
  clear h hf hk1 hk2
  go_enter Try.func10, Try.ntmps10
  go_wp2_with fail
  refine (size6_any k1 HK1.out w).mono ?_
  rintro e w0 ⟨rm, rfl, ⟨r0, r1⟩, hw0⟩
  subst hw0
  go_wp2_with fail
  refine (grown_any R a n c rm r0 r1 w0 H.out HF.out).mono ?_
  rintro e w1 ⟨v, L, rfl, o1, hG, b1⟩
  obtain ⟨al, cl, hv0, hlc, hcm, _⟩ := o1.form
  obtain ⟨ll, hll⟩ : ∃ ll, L.length = ll := ⟨_, rfl⟩
  have hl256 := (chk_zero hG.ok).1
  have hlr := (chk_zero hG.ok).2.2.2
  rw [hll] at hv0 hlc hl256 hlr
  subst hv0
  have HLL := hide hll
  have O1 := hide o1
  have HG := hide hG
  unfold maxLen at hcm
  clear o1 hll hG H HF
  go_wp2_with fail
  refine (works6_any w1).mono ?_
  rintro e w2 ⟨rfl, b2⟩
  have B2 := hide (b1.trans (b2.mono b1.size))
  have S2 := hide ((O1.out.grow b2).sl' kE)
  clear O1 b1 b2
  have CK := checkO_any L al ll cl rm w2 S2.out HG.out.fit
  rw [HG.out.ok, chk_snd HG.out.ok] at CK
  have HCK := hide CK
  clear CK
  go_wp2_with fail
  refine HCK.out.mono ?_
  rintro e w3 ⟨rfl, b3⟩
  have B3 := hide (B2.out.trans (b3.mono B2.out.size))
  have S3 := hide (S2.out.later b3)
  clear HCK B2 S2 b3
  by_cases hl0 : ll = 0
  · subst hl0
    obtain rfl : L = [] := List.eq_nil_of_length_eq_zero HLL.out
    go_wp2_with fail
    obtain ⟨WX, hWX⟩ : ∃ WX, w3.alloc (Obj.cells #[Value.int IntKind.i64 0, Value.int IntKind.i64 1, Value.int IntKind.i64 4, Value.int IntKind.i64 0, Value.string ⟨#[]⟩] 41) = WX := ⟨_, rfl⟩
    rw [hWX]
    have bX : Below w3.heap.size w3 WX := by rw [← hWX]; exact (Below.refl _ _).alloc (Nat.le_refl _) _
    have zX : WX.heap.size = w3.heap.size + 1 := by rw [← hWX]; simp
    have BX := hide (B3.out.trans (bX.mono B3.out.size))
    have SX := hide (S3.out.later bX)
    have p0 : WX.cell? ⟨w3.heap.size, 0, none⟩ = some (.int .i64 xG.c) := by rw [← hWX]; exact World.cell?_alloc_at _ _ _ _ rfl
    have p1 : WX.cell? ⟨w3.heap.size, 1, none⟩ = some (.int .i64 xG.n) := by rw [← hWX]; exact World.cell?_alloc_at _ _ _ _ rfl
    have p2 : WX.cell? ⟨w3.heap.size, 2, none⟩ = some (.int .i64 xG.o.k) := by rw [← hWX]; exact World.cell?_alloc_at _ _ _ _ rfl
    have p3 : WX.cell? ⟨w3.heap.size, 3, none⟩ = some (.int .i64 xG.o.s) := by rw [← hWX]; exact World.cell?_alloc_at _ _ _ _ rfl
    have p4 : WX.cell? ⟨w3.heap.size, 4, none⟩ = some (.string xG.o.v) := by rw [← hWX]; exact World.cell?_alloc_at _ _ _ _ rfl
    have CA := appendO_any ([] : List En) xG al 0 cl rm WX SX.out HG.out.fit xG_fits (by omega)
    have HSP : Hid (∀ (w2 : World), Below WX.heap.size WX w2 → Calls Try.prog 28 #[.slice al 0 cl, .int .i64 rm, .int .i64 (((0 : Nat) : Int) + 1), .slice (some ⟨w2.heap.size, 0, none⟩) 1 1] (w2.alloc (.cells #[.int .i64 xG.c, .int .i64 xG.n, .int .i64 xG.o.k, .int .i64 xG.o.s, .string xG.o.v] 41)) fun e w' => ∃ v, e = .returned (.tuple #[v, .int .i64 (spE ([] : List En) rm (((0 : Nat) : Int) + 1) [xG])]) ∧ OwnY yE (w2.heap.size + 1) w' v (spL ([] : List En) rm (((0 : Nat) : Int) + 1) [xG]) ∧ Below (w2.heap.size + 1) (w2.alloc (.cells #[.int .i64 xG.c, .int .i64 xG.n, .int .i64 xG.o.k, .int .i64 xG.o.s, .string xG.o.v] 41)) w') := fun w2 hw2 => by
      have hsb : SlY yE (w2.alloc (.cells #[.int .i64 xG.c, .int .i64 xG.n, .int .i64 xG.o.k, .int .i64 xG.o.s, .string xG.o.v] 41)) (some ⟨w2.heap.size, 0, none⟩) 1 1 [xG] := sl_box (Y := yE) w2 xG 41
      have hal : Below w2.heap.size w2 (w2.alloc (.cells #[.int .i64 xG.c, .int .i64 xG.n, .int .i64 xG.o.k, .int .i64 xG.o.s, .string xG.o.v] 41)) := (Below.refl _ _).alloc (Nat.le_refl _) _
      have hsz : (w2.alloc (.cells #[.int .i64 xG.c, .int .i64 xG.n, .int .i64 xG.o.k, .int .i64 xG.o.s, .string xG.o.v] 41)).heap.size = w2.heap.size + 1 := by simp
      generalize w2.alloc (.cells #[.int .i64 xG.c, .int .i64 xG.n, .int .i64 xG.o.k, .int .i64 xG.o.s, .string xG.o.v] 41) = WA at *
      have hfx : ∀ e ∈ [xG], e.fits := fun e he => by simp at he; rw [he]; exact xG_fits
      have := spliceO_any ([] : List En) [xG] al (some ⟨w2.heap.size, 0, none⟩) 0 cl 1 1 rm (((0 : Nat) : Int) + 1) WA ((SX.out.later hw2).later hal) hsb HG.out.fit hfx (by omega)
      rw [hsz] at this
      exact this
    have HEQ := hide (spE_append ([] : List En) rm xG)
    have HZQ := hide (spL_append ([] : List En) rm xG)
    rw [HLL.out] at CA HEQ HZQ
    generalize spE ([] : List En) rm (((0 : Nat) : Int) + 1) [xG] = E at *
    generalize spL ([] : List En) rm (((0 : Nat) : Int) + 1) [xG] = Z at *
    have HCA := hide CA
    have hwx : w3.heap.size < WX.heap.size := by omega
    clear CA hWX zX bX
    dsimp only [xG] at HCA
    refine HCA.out.mono ?_
    rintro e w5 ⟨v5, rfl, o5, b5⟩
    have O5 := hide o5
    obtain ⟨a5, c5, hv5, _⟩ := o5.form
    generalize Z.length = m5 at hv5
    subst hv5
    have e0 := (b5.cell (p := ⟨w3.heap.size, 0, none⟩) hwx).trans p0
    have e1 := (b5.cell (p := ⟨w3.heap.size, 1, none⟩) hwx).trans p1
    have e2 := (b5.cell (p := ⟨w3.heap.size, 2, none⟩) hwx).trans p2
    have e3 := (b5.cell (p := ⟨w3.heap.size, 3, none⟩) hwx).trans p3
    have e4 := (b5.cell (p := ⟨w3.heap.size, 4, none⟩) hwx).trans p4
    clear o5 HCA
    dsimp only [xG] at e0 e1 e2 e3 e4 HSP
    go_wp2_with fail
    refine (HSP.out w5 b5).mono ?_
    rintro e w6 ⟨v6, rfl, o6, b6⟩
    have O6 := hide o6
    obtain ⟨a6, c6, hv6, _⟩ := o6.form
    generalize Z.length = m6 at hv6
    subst hv6
    have b56 : Below w5.heap.size w5 w6 := ((Below.refl _ _).alloc (Nat.le_refl _) _).trans (b6.mono (Nat.le_succ _))
    have hw5 : w3.heap.size < w5.heap.size := by have := b5.size; omega
    have f0 := (b56.cell (p := ⟨w3.heap.size, 0, none⟩) hw5).trans e0
    have f1 := (b56.cell (p := ⟨w3.heap.size, 1, none⟩) hw5).trans e1
    have f2 := (b56.cell (p := ⟨w3.heap.size, 2, none⟩) hw5).trans e2
    have f3 := (b56.cell (p := ⟨w3.heap.size, 3, none⟩) hw5).trans e3
    have f4 := (b56.cell (p := ⟨w3.heap.size, 4, none⟩) hw5).trans e4
    have O56 := hide (O5.out.grow b56)
    have Q5 := hide (O56.out.sl' kE)
    have Q6 := hide (O6.out.sl' kE)
    obtain rfl : m5 = Z.length := Q5.out.len.symm
    obtain rfl : m6 = Z.length := Q6.out.len.symm
    have CS := hide (sameents_any Z a5 a6 c5 c6 w6 Q5.out Q6.out)
    have HB6 := hide ((BX.out.trans (b5.mono BX.out.size)).trans (b56.mono (Nat.le_trans BX.out.size b5.size)))
    clear o6 b6 b56 HSP e0 e1 e2 e3 e4 p0 p1 p2 p3 p4 Q5 Q6 b5
    have hEe : E = 0 := by
      rw [HEQ.out, if_neg (by rw [HG.out.ok]; simp), if_neg (by omega)]
      rfl
    have hZe : Z = [xG] := by rw [HZQ.out, hEe]; rfl
    subst hEe hZe
    have hrm : ¬ ((0 : Int) = rm) := by omega
    have hd : decide ((0 : Int) = rm) = false := by simpa using hrm
    simp only [List.length_cons, List.length_nil, Nat.zero_add] at CS ⊢
    obtain ⟨a9, c9, hv9, _, _, kn, kg⟩ := O56.out.form
    have hv10 : a5 = a9 := by injection hv9
    clear hv9
    subst hv10
    obtain ⟨g5, rfl⟩ : ∃ g5, a5 = some ⟨g5, 0, none⟩ := by
      cases a5 with
      | none => exact absurd (kn rfl).1 (by simp)
      | some z => obtain ⟨g7, hz7, _⟩ := kg z rfl; exact ⟨g7, by rw [hz7]⟩
    have t0 := O56.out.cell kE 0 xG rfl
    have r0' := t0 0 _ rfl
    have r1' := t0 1 _ rfl
    have r2' := t0 2 _ rfl
    have r3' := t0 3 _ rfl
    have r4' := t0 4 _ rfl
    have hc5 := (O56.out.sl' kE).max
    have hc5' := (O56.out.sl' kE).cap
    unfold maxLen at hc5
    simp only [yE, Nat.zero_mul, Nat.zero_add, xG] at r0' r1' r2' r3' r4'
    have qe := fun W => eqlE 0 1 4 0 ⟨#[]⟩ 0 1 4 0 ⟨#[]⟩ W
    simp only [decide_true] at qe
    clear t0 kn kg
    go_wp2_with fail
    refine CS.out.mono ?_
    rintro e w7 ⟨rfl, n7, rfl⟩
    go_wp2
    go_quiet (fail)
    go_wp2
    go_ret
    first | exact ⟨rfl, belN HB6.out (n7 + nq)⟩ | exact ⟨rfl, belN (belN HB6.out n7) nq⟩
  · have hl1 : 0 < ll := by omega
    go_wp2_with fail
    refine (within6_any k2 ((ll : Int) - 1) HK2.out (by omega) (by omega) _).mono ?_
    rintro e w4 ⟨ri, rfl, ⟨q0, q1⟩, hw4⟩
    subst hw4
    obtain ⟨i, rfl⟩ : ∃ i : Nat, ri = (i : Int) := ⟨ri.toNat, by omega⟩
    have hil : i < ll := by omega
    have hiL : i < L.length := by rw [HLL.out]; exact hil
    have hx : L[i]? = some L[i] := List.getElem?_eq_getElem hiL
    have hfx := HG.out.fit _ (List.getElem_mem hiL)
    have hert := er_there HG.out.ok hx
    obtain ⟨q, o, rfl, hq, x0, x1, x2, x3, x4⟩ := S3.out.en hx
    generalize L[i] = x at *
    have y0 : ∀ ob, (w3.alloc ob).cell? ⟨q, o + i * 5, none⟩ = some (.int .i64 x.c) := fun ob => (World.cell?_alloc_past _ _ _ hq).trans x0
    have y1 : ∀ ob, (w3.alloc ob).cell? ⟨q, o + i * 5 + 1, none⟩ = some (.int .i64 x.n) := fun ob => (World.cell?_alloc_past _ _ _ hq).trans x1
    have y2 : ∀ ob, (w3.alloc ob).cell? ⟨q, o + i * 5 + 2, none⟩ = some (.int .i64 x.o.k) := fun ob => (World.cell?_alloc_past _ _ _ hq).trans x2
    have y3 : ∀ ob, (w3.alloc ob).cell? ⟨q, o + i * 5 + 3, none⟩ = some (.int .i64 x.o.s) := fun ob => (World.cell?_alloc_past _ _ _ hq).trans x3
    have y4 : ∀ ob, (w3.alloc ob).cell? ⟨q, o + i * 5 + 4, none⟩ = some (.string x.o.v) := fun ob => (World.cell?_alloc_past _ _ _ hq).trans x4
    go_wp2_with fail
    obtain ⟨WX, hWX⟩ : ∃ WX, w3.alloc (Obj.cells #[Value.int IntKind.i64 x.c, Value.int IntKind.i64 x.n, Value.int IntKind.i64 x.o.k, Value.int IntKind.i64 x.o.s, Value.string x.o.v] 41) = WX := ⟨_, rfl⟩
    rw [hWX]
    have bX : Below w3.heap.size w3 WX := by rw [← hWX]; exact (Below.refl _ _).alloc (Nat.le_refl _) _
    have zX : WX.heap.size = w3.heap.size + 1 := by rw [← hWX]; simp
    have BX := hide (B3.out.trans (bX.mono B3.out.size))
    have SX := hide (S3.out.later bX)
    have p0 : WX.cell? ⟨w3.heap.size, 0, none⟩ = some (.int .i64 x.c) := by rw [← hWX]; exact World.cell?_alloc_at _ _ _ _ rfl
    have p1 : WX.cell? ⟨w3.heap.size, 1, none⟩ = some (.int .i64 x.n) := by rw [← hWX]; exact World.cell?_alloc_at _ _ _ _ rfl
    have p2 : WX.cell? ⟨w3.heap.size, 2, none⟩ = some (.int .i64 x.o.k) := by rw [← hWX]; exact World.cell?_alloc_at _ _ _ _ rfl
    have p3 : WX.cell? ⟨w3.heap.size, 3, none⟩ = some (.int .i64 x.o.s) := by rw [← hWX]; exact World.cell?_alloc_at _ _ _ _ rfl
    have p4 : WX.cell? ⟨w3.heap.size, 4, none⟩ = some (.string x.o.v) := by rw [← hWX]; exact World.cell?_alloc_at _ _ _ _ rfl
    have CA := appendO_any L x (some ⟨q, o, none⟩) ll cl rm WX SX.out HG.out.fit hfx (by omega)
    have HSP : Hid (∀ (w2 : World), Below WX.heap.size WX w2 → Calls Try.prog 28 #[.slice (some ⟨q, o, none⟩) ll cl, .int .i64 rm, .int .i64 (((ll : Nat) : Int) + 1), .slice (some ⟨w2.heap.size, 0, none⟩) 1 1] (w2.alloc (.cells #[.int .i64 x.c, .int .i64 x.n, .int .i64 x.o.k, .int .i64 x.o.s, .string x.o.v] 41)) fun e w' => ∃ v, e = .returned (.tuple #[v, .int .i64 (spE L rm (((ll : Nat) : Int) + 1) [x])]) ∧ OwnY yE (w2.heap.size + 1) w' v (spL L rm (((ll : Nat) : Int) + 1) [x]) ∧ Below (w2.heap.size + 1) (w2.alloc (.cells #[.int .i64 x.c, .int .i64 x.n, .int .i64 x.o.k, .int .i64 x.o.s, .string x.o.v] 41)) w') := fun w2 hw2 => by
      have hsb : SlY yE (w2.alloc (.cells #[.int .i64 x.c, .int .i64 x.n, .int .i64 x.o.k, .int .i64 x.o.s, .string x.o.v] 41)) (some ⟨w2.heap.size, 0, none⟩) 1 1 [x] := sl_box (Y := yE) w2 x 41
      have hal : Below w2.heap.size w2 (w2.alloc (.cells #[.int .i64 x.c, .int .i64 x.n, .int .i64 x.o.k, .int .i64 x.o.s, .string x.o.v] 41)) := (Below.refl _ _).alloc (Nat.le_refl _) _
      have hsz : (w2.alloc (.cells #[.int .i64 x.c, .int .i64 x.n, .int .i64 x.o.k, .int .i64 x.o.s, .string x.o.v] 41)).heap.size = w2.heap.size + 1 := by simp
      generalize w2.alloc (.cells #[.int .i64 x.c, .int .i64 x.n, .int .i64 x.o.k, .int .i64 x.o.s, .string x.o.v] 41) = WA at *
      have hfx : ∀ e ∈ [x], e.fits := fun e he => by simp at he; rw [he]; exact hfx
      have := spliceO_any L [x] (some ⟨q, o, none⟩) (some ⟨w2.heap.size, 0, none⟩) ll cl 1 1 rm (((ll : Nat) : Int) + 1) WA ((SX.out.later hw2).later hal) hsb HG.out.fit hfx (by omega)
      rw [hsz] at this
      exact this
    have HEQ := hide (spE_append L rm x)
    have HZQ := hide (spL_append L rm x)
    rw [HLL.out] at CA HEQ HZQ
    generalize spE L rm (((ll : Nat) : Int) + 1) [x] = E at *
    generalize spL L rm (((ll : Nat) : Int) + 1) [x] = Z at *
    have HCA := hide CA
    have hwx : w3.heap.size < WX.heap.size := by omega
    clear CA hWX zX bX
    clear y0 y1 y2 y3 y4 x0 x1 x2 x3 x4
    refine HCA.out.mono ?_
    rintro e w5 ⟨v5, rfl, o5, b5⟩
    have O5 := hide o5
    obtain ⟨a5, c5, hv5, _⟩ := o5.form
    generalize Z.length = m5 at hv5
    subst hv5
    have e0 := (b5.cell (p := ⟨w3.heap.size, 0, none⟩) hwx).trans p0
    have e1 := (b5.cell (p := ⟨w3.heap.size, 1, none⟩) hwx).trans p1
    have e2 := (b5.cell (p := ⟨w3.heap.size, 2, none⟩) hwx).trans p2
    have e3 := (b5.cell (p := ⟨w3.heap.size, 3, none⟩) hwx).trans p3
    have e4 := (b5.cell (p := ⟨w3.heap.size, 4, none⟩) hwx).trans p4
    clear o5 HCA
    go_wp2_with fail
    refine (HSP.out w5 b5).mono ?_
    rintro e w6 ⟨v6, rfl, o6, b6⟩
    have O6 := hide o6
    obtain ⟨a6, c6, hv6, _⟩ := o6.form
    generalize Z.length = m6 at hv6
    subst hv6
    have b56 : Below w5.heap.size w5 w6 := ((Below.refl _ _).alloc (Nat.le_refl _) _).trans (b6.mono (Nat.le_succ _))
    have hw5 : w3.heap.size < w5.heap.size := by have := b5.size; omega
    have f0 := (b56.cell (p := ⟨w3.heap.size, 0, none⟩) hw5).trans e0
    have f1 := (b56.cell (p := ⟨w3.heap.size, 1, none⟩) hw5).trans e1
    have f2 := (b56.cell (p := ⟨w3.heap.size, 2, none⟩) hw5).trans e2
    have f3 := (b56.cell (p := ⟨w3.heap.size, 3, none⟩) hw5).trans e3
    have f4 := (b56.cell (p := ⟨w3.heap.size, 4, none⟩) hw5).trans e4
    have O56 := hide (O5.out.grow b56)
    have Q5 := hide (O56.out.sl' kE)
    have Q6 := hide (O6.out.sl' kE)
    obtain rfl : m5 = Z.length := Q5.out.len.symm
    obtain rfl : m6 = Z.length := Q6.out.len.symm
    have CS := hide (sameents_any Z a5 a6 c5 c6 w6 Q5.out Q6.out)
    have HB6 := hide ((BX.out.trans (b5.mono BX.out.size)).trans (b56.mono (Nat.le_trans BX.out.size b5.size)))
    clear o6 b6 b56 HSP e0 e1 e2 e3 e4 p0 p1 p2 p3 p4 Q5 Q6 b5
    rw [if_neg (by rw [HG.out.ok]; simp)] at HEQ
    by_cases hrm : (ll : Int) = rm
    · rw [if_pos hrm] at HEQ
      have hEe := HEQ.out
      have hZe : Z = [] := by rw [HZQ.out, hEe]; rfl
      subst hEe hZe
      simp only [List.length_nil] at CS ⊢
      go_wp2_with fail
      refine CS.out.mono ?_
      rintro e w7 ⟨rfl, n7, rfl⟩
      go_wp2
      go_ret
      exact ⟨rfl, belN HB6.out n7⟩
    · rw [if_neg hrm, hert] at HEQ
      have hEe := HEQ.out
      have hZe : Z = [] := by rw [HZQ.out, hEe]; rfl
      have hd : decide ((ll : Int) = rm) = false := by simpa using hrm
      subst hEe hZe
      simp only [List.length_nil] at CS ⊢
      go_wp2_with fail
      refine CS.out.mono ?_
      rintro e w7 ⟨rfl, n7, rfl⟩
      go_wp2
      go_ret
      exact ⟨rfl, belN HB6.out n7⟩
theorem grows6_came (a : Option Addr) (len cap : Nat) (k1 k2 : Int) (W : World) (h : CameR W a len cap) (hk1 : (Lit.int .i64 k1).wf = true) (hk2 : (Lit.int .i64 k2).wf = true) :
    Calls Try.prog 10 #[.slice a len cap, .int .i64 k1, .int .i64 k2] W fun e w' => e = .returned (.bool true) ∧ Below W.heap.size W w' := by
  obtain ⟨P, hs, hf, hm⟩ := h
  exact grows6_walk P a len cap k1 k2 hk1 hk2 W hs hf

end Go.Proofs.Ytdfoafpcoigklaa
