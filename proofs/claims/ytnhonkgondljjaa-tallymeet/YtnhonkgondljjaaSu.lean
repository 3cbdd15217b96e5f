import Derived.Test.YtnhonkgondljjaaSn
import Derived.Test.YtnhonkgondljjaaSz
namespace Go.Proofs.Ytnhonkgondljjaa
open Go.RowKit Go.Maps
open Classical
set_option linter.unusedVariables false
set_option linter.unusedSimpArgs false

/-- within: k brought into 0 to m. -/
theorem within8_any (k m : Int) (w : World) (h0 : 0 ≤ m) (h1 : m ≤ 4611686018427387904) : Calls Try.prog 31 #[.int .i64 k, .int .i64 m] w fun e w' => e = .returned (.int .i64 (k % (m + 1))) ∧ w' = w := by
  have hn : 0 < m + 1 := by omega
  have hne : m + 1 ≠ 0 := by omega
  have hb : (m + 1 == 0) = false := by simp; omega
  have g1 := Int.lt_tmod_of_pos k hn
  have g2 := Int.tmod_lt_of_pos k hn
  have hw0 : IntKind.i64.wrap (m + 1) = m + 1 := by rw [IntKind.wrap_i64]; omega
  have hw1 : IntKind.i64.wrap (Int.tmod k (m + 1)) = Int.tmod k (m + 1) := by rw [IntKind.wrap_i64]; omega
  have he : Hid (Int.tmod k (m + 1) % (m + 1) = k % (m + 1)) := by show _ = _; rw [Int.tmod_def, Int.sub_mul_emod_self_left]
  by_cases ht : Int.tmod k (m + 1) < 0
  · have hw2 : IntKind.i64.wrap (Int.tmod k (m + 1) + m) = Int.tmod k (m + 1) + m := by rw [IntKind.wrap_i64]; omega
    have hw3 : IntKind.i64.wrap (Int.tmod k (m + 1) + m + 1) = Int.tmod k (m + 1) + m + 1 := by rw [IntKind.wrap_i64]; omega
    have e2 : Hid (k % (m + 1) = Int.tmod k (m + 1) + m + 1) := by
      show _ = _
      rw [← he.out, ← Int.add_emod_right _ (m + 1), Int.emod_eq_of_lt (by omega) (by omega)]
      omega
    generalize k % (m + 1) = r at *
    go_enter Try.func31, Try.ntmps31
    go_wp2
    go_ret
    exact ⟨by rw [e2.out]; rfl, rfl⟩
  · have e2 : Hid (k % (m + 1) = Int.tmod k (m + 1)) := by
      show _ = _
      rw [← he.out, Int.emod_eq_of_lt (by omega) (by omega)]
    generalize k % (m + 1) = r at *
    go_enter Try.func31, Try.ntmps31
    go_wp2
    go_ret
    exact ⟨by rw [e2.out]; rfl, rfl⟩
theorem good_nil (N : Nat) : Good N [] := ⟨List.Pairwise.nil, fun x hx => by cases hx⟩
/-- What the law's two lists are. -/
def GM8 (N : Nat) (s : Int) (l : List Int) : Prop := Good N l ∧ s ∉ l
def GA8 (N : Nat) (W : World) (L : List An) : Prop := Good N (L.map (·.n)) ∧ (∀ x ∈ L, x.v = x.n) ∧ ∀ x ∈ L, x.In W
theorem GA8.later {N : Nat} {w w' : World} {L : List An} (h : GA8 N w L) (hb : Below w.heap.size w w') : GA8 N w' L := ⟨h.1, h.2.1, fun x hx => (h.2.2 x hx).later hb⟩
theorem GA8.put {N : Nat} {w w' : World} {L R : List An} {v : Int} {B : Nat} (h : GA8 N w L) (h0 : 0 ≤ v) (h1 : v < (N : Int)) (ht : An.Tolds B w' (An.put L ⟨v, 0, 0, v, 0, ⟨none, 0, []⟩⟩) R) : GA8 N w' R := by
  have hidx : ∀ y ∈ R, ∃ x ∈ An.put L ⟨v, 0, 0, v, 0, ⟨none, 0, []⟩⟩, An.Told B w' x y := fun y hy => by
    obtain ⟨i, hi, rfl⟩ := List.mem_iff_getElem.1 hy
    have hi2 : i < (An.put L ⟨v, 0, 0, v, 0, ⟨none, 0, []⟩⟩).length := by rw [← ht.1]; exact hi
    exact ⟨_, List.getElem_mem hi2, ht.2 i _ _ (List.getElem?_eq_getElem hi2) (List.getElem?_eq_getElem hi)⟩
  have hmap : R.map (·.n) = (An.put L ⟨v, 0, 0, v, 0, ⟨none, 0, []⟩⟩).map (·.n) := by
    apply List.ext_getElem (by simp [ht.1])
    intro i h1 h2
    simp only [List.getElem_map]
    simp only [List.length_map] at h1 h2
    exact (ht.2 i _ _ (List.getElem?_eq_getElem h2) (List.getElem?_eq_getElem h1)).D.2.1
  refine ⟨?_, fun y hy => ?_, fun y hy => ?_⟩
  · rw [hmap, An.put_n]
    exact h.1.ins h0 h1
  · obtain ⟨x, hx, hxy⟩ := hidx y hy
    obtain ⟨_, e1, _, _, e2, _⟩ := hxy.D
    rw [e1, e2]
    rcases An.mem_put L _ x hx with hx | rfl
    · exact h.2.1 x hx
    · rfl
  · obtain ⟨x, hx, hxy⟩ := hidx y hy
    exact hxy.In
set_option maxRecDepth 100000 in
set_option maxHeartbeats 2000000 in
theorem meet_walk (f s : Int) (Ws Ts : List Int) (a2 a3 : Option Addr) (n2 c2 n3 c3 : Nat) (w : World) (h2 : SlY yI w a2 n2 c2 Ws) (h3 : SlY yI w a3 n3 c3 Ts) :
    Calls Try.prog 11 #[.int .i64 f, .int .i64 s, .slice a2 n2 c2, .slice a3 n3 c3] w fun e w' => e = .returned (.bool true) ∧ Below w.heap.size w w' := by
  have hm2 := h2.max
  have hc2 := h2.cap
  have hm3 := h3.max
  have hc3 := h3.cap
  unfold maxLen at hm2 hm3
  have H2 := hide h2
  have H3 := hide h3
  have N2 := hide h2.len
  have N3 := hide h3.len
  clear h2 h3
  go_enter Try.func11, Try.ntmps11
  go_wp2_with fail
  refine (works8_any w).mono ?_
  rintro e w1 ⟨rfl, b1⟩
  dsimp only
  go_wp2_with fail
  refine (show Calls Try.prog 31 #[.int .i64 f, .int .i64 2] w1 fun e w' => e = .returned (.int .i64 (f % 3)) ∧ w' = w1 from within8_any f 2 w1 (by omega) (by omega)).mono ?_
  rintro e w1' ⟨rfl, rfl⟩
  obtain ⟨F, hF⟩ : ∃ F : Nat, (F : Int) = 1 + f % 3 := ⟨(1 + f % 3).toNat, by omega⟩
  have hF1 : 1 ≤ F := by omega
  have hF3 : F ≤ 3 := by omega
  have hwF : IntKind.i64.wrap (1 + f % 3) = (F : Int) := by rw [IntKind.wrap_i64]; omega
  clear hF
  dsimp only
  have hw2F : IntKind.i64.wrap (2 * (F : Int)) = 2 * (F : Int) := by rw [IntKind.wrap_i64]; omega
  go_wp2_with fail
  refine (within8_any s (2 * (F : Int)) _ (by omega) (by omega)).mono ?_
  rintro e w1' ⟨rfl, rfl⟩
  have hS0 := Int.emod_nonneg s (b := 2 * (F : Int) + 1) (by omega)
  have hS1 := Int.emod_lt_of_pos s (b := 2 * (F : Int) + 1) (by omega)
  generalize s % (2 * (F : Int) + 1) = S at *
  dsimp only
  go_wp2_with fail
  have SN : Hid (S < ((2 * F + 1 : Nat) : Int)) := by show _ < _; omega
  go_loopw [10, 9] (fun i m wr => ∃ (j : Nat) (am : Option Addr) (cm : Nat) (Ms : List Mk), i = .int .i64 (j : Int) ∧ j ≤ n2 ∧ m = .slice am Ms.length cm ∧ Hid (SlY yMkA wr am Ms.length cm Ms) ∧ Hid (GM8 (2 * F + 1) S (Ms.map (·.n))) ∧ Below w.heap.size w wr) (fun i _ _ => n2 - (intOf i).toNat)
  case atStart => exact ⟨0, none, 0, [], rfl, Nat.zero_le _, rfl, SlY.none_ _ _, ⟨good_nil _, by simp⟩, b1⟩
  case round =>
    obtain ⟨j, am, cm, Ms, rfl, hj, rfl, hM, hG, hbl⟩ := hrel
    have hsz := hbl.size
    have hlen : Hid (Ms.length ≤ 7) := by
      show _ ≤ _
      have := hG.out.1.len
      rw [List.length_map] at this
      omega
    have hmcap := hM.out.cap
    have hmmax := hM.out.max
    unfold maxLen at hmmax
    by_cases hlt : j < n2
    · have hjl : j < Ws.length := by rw [N2.out]; exact hlt
      have hg : Ws[j]? = some Ws[j] := List.getElem?_eq_getElem hjl
      obtain ⟨q, o, rfl, hq, y0⟩ := (H2.out.later hbl).int hg
      clear hg
      generalize Ws[j] = x at *
      have cw := hide (within8_any x (2 * (F : Int)) wr (by omega) (by omega))
      have hx0 := Int.emod_nonneg x (b := 2 * (F : Int) + 1) (by omega)
      have hx1 := Int.emod_lt_of_pos x (b := 2 * (F : Int) + 1) (by omega)
      generalize x % (2 * (F : Int) + 1) = v at *
      have cp := hide (Mk.Put_any Ms ⟨v, 0, 0⟩ am Ms.length cm wr hM.out (by have := hlen.out; omega))
      go_wp2_with fail
      refine cw.out.mono ?_
      rintro e w1' ⟨rfl, rfl⟩
      dsimp only
      by_cases hvS : v = S
      · have hb : (v != S) = false := by simp [hvS]
        clear cp
        go_wp2
        go_round
        case rel => exact ⟨j + 1, am, cm, Ms, by go_num, by omega, rfl, hM, hG, hbl⟩
        case measure => simp [intOf]; omega
      · have hb : (v != S) = true := by simp [hvS]
        go_wp2_with fail
        refine cp.out.mono ?_
        rintro e w2 ⟨v2, rfl, o2, b2⟩
        obtain ⟨am2, cm2, rfl, s2, _⟩ := o2.sl kMkA
        have S2 := hide s2
        have hG2 : Hid (GM8 (2 * F + 1) S ((Mk.put Ms ⟨v, 0, 0⟩).map (·.n))) := by
          show GM8 _ _ _
          rw [Mk.put_n]
          refine ⟨hG.out.1.ins hx0 (by show v < ((2 * F + 1 : Nat) : Int); omega), fun h => ?_⟩
          rcases mem_insN.1 h with h | h
          · exact hG.out.2 h
          · exact hvS h.symm
        have B2 := hide (hbl.trans (b2.mono hsz))
        clear o2 s2 b2 cp cw hG hM
        dsimp only
        go_wp2
        go_round
        case rel => exact ⟨j + 1, am2, cm2, _, by go_num, by omega, rfl, S2, hG2, B2.out⟩
        case measure => simp [intOf]; omega
    · obtain rfl : j = n2 := by omega
      go_wp2_with fail
      have B1 := hide hbl
      have M1 := hM
      clear hM
      obtain ⟨wm, hwm⟩ : ∃ wm, wm = wr := ⟨_, rfl⟩
      have M2 : Hid (SlY yMkA wm am Ms.length cm Ms) := by show SlY _ _ _ _ _ _; rw [hwm]; exact M1.out
      have B2 : Hid (Below w.heap.size w wm) := by show Below _ _ _; rw [hwm]; exact hbl
      have B3 : Hid (Below wm.heap.size wm wr) := by show Below _ _ _; rw [hwm]; exact Below.refl _ _
      have hsz2 : w.heap.size ≤ wm.heap.size := by rw [hwm]; exact hsz
      clear M1 B1 hbl hwm
      go_loopw [13, 12] (fun i m wr => ∃ (k : Nat) (aa : Option Addr) (ca : Nat) (As : List An), i = .int .i64 (k : Int) ∧ k ≤ n3 ∧ m = .slice aa As.length ca ∧ Hid (SlY yAnA wr aa As.length ca As) ∧ Hid (GA8 (2 * F + 1) wr As) ∧ Below wm.heap.size wm wr) (fun i _ _ => n3 - (intOf i).toNat)
      case atStart => exact ⟨0, none, 0, [], rfl, Nat.zero_le _, rfl, SlY.none_ _ _, ⟨good_nil _, fun x hx => (by cases hx), fun x hx => (by cases hx)⟩, B3.out⟩
      case round =>
        clear B3 hsz
        obtain ⟨k, aa, ca, As, rfl, hk, rfl, hA, hGA, hbl⟩ := hrel
        have hsz3 := hbl.size
        have bw := hide (B2.out.trans (hbl.mono hsz2))
        have hlenA : Hid (As.length ≤ 2 * F + 1) := by
          show _ ≤ _
          have := hGA.out.1.len
          rw [List.length_map] at this
          exact this
        have hacap := hA.out.cap
        have hamax := hA.out.max
        unfold maxLen at hamax
        by_cases hlt2 : k < n3
        · have hjl : k < Ts.length := by rw [N3.out]; exact hlt2
          have hg : Ts[k]? = some Ts[k] := List.getElem?_eq_getElem hjl
          obtain ⟨q, o, rfl, hq, y0⟩ := (H3.out.later bw.out).int hg
          clear hg
          generalize Ts[k] = x at *
          have cw := hide (within8_any x (2 * (F : Int)) wr (by omega) (by omega))
          have hx0 := Int.emod_nonneg x (b := 2 * (F : Int) + 1) (by omega)
          have hx1 := Int.emod_lt_of_pos x (b := 2 * (F : Int) + 1) (by omega)
          generalize x % (2 * (F : Int) + 1) = v at *
          have cp := hide (An.Put_any As ⟨v, 0, 0, v, 0, ⟨none, 0, []⟩⟩ aa As.length ca wr hA.out hGA.out.2.2 (An.In_nil _ rfl) (by have := hlenA.out; omega))
          go_wp2_with fail
          refine cw.out.mono ?_
          rintro e w1' ⟨rfl, rfl⟩
          dsimp only
          go_wp2_with fail
          refine cp.out.mono ?_
          rintro e w2 ⟨v2, R2, rfl, o2, t2, b2⟩
          obtain ⟨aa2, ca2, rfl, s2, _⟩ := o2.sl kAnA
          have S2 := hide s2
          have hG2 := hide (hGA.out.put hx0 (by omega) t2)
          have B4 := hide (hbl.trans (b2.mono hsz3))
          clear o2 s2 b2 t2 cp cw hGA hA
          dsimp only
          go_wp2
          go_round
          case rel => exact ⟨k + 1, aa2, ca2, R2, by go_num, by omega, rfl, S2, hG2, B4.out⟩
          case measure => simp [intOf]; omega
        · obtain rfl : k = n3 := by omega
          have cs := hide (settle_any (F : Int) As aa As.length ca wr hA.out hGA.out.2.2)
          have hiso : Hid ((stl (F : Int) As).isSome = decide (F < As.length)) := stl_meet hF1 hF3 hGA.out.2.1 (fun x hx => hGA.out.1.2 _ (List.mem_map_of_mem hx))
          go_wp2_with fail
          refine cs.out.mono ?_
          rintro e w2 ⟨hout, b2⟩
          have hz2 := b2.size
          have SA := hide (hA.out.later b2)
          have SM := hide ((M2.out.later hbl).later b2)
          have B5 := hide (bw.out.trans (b2.mono (by omega)))
          have mk := hide (fun W => marked_any (F : Int) am Ms.length cm W)
          clear cs b2 hbl
          cases ho : stl (F : Int) As with
          | none =>
            rw [ho] at hout
            have hle : ¬ (F < As.length) := by
              have := hiso.out
              rw [ho] at this
              exact of_decide_eq_false this.symm
            have hleI : ¬ ((F : Int) < (As.length : Int)) := by omega
            have hout : e = .returned (.tuple #[.agg #[.int .i64 0, .int .u64 0, .int .u64 0, .int .i64 0, .int .i64 0, .slice none 0 0], .int .i64 81]) := hout
            subst hout
            clear hiso ho
            dsimp only
            go_wp2_with fail
            refine (mk.out _).mono ?_
            rintro e w3 ⟨rfl, hw3⟩
            subst hw3
            dsimp only
            cases hmk : decide ((F : Int) ≤ (Ms.length : Int)) with
            | true =>
              go_wp2
              go_ret
              exact ⟨rfl, by repeat (first | exact B5.out | refine Below.alloc ?_ (by omega) _ | refine Below.setCell ?_ (by simp; omega) _)⟩
            | false =>
              go_wp2
              go_ret
              exact ⟨rfl, by repeat (first | exact B5.out | refine Below.alloc ?_ (by omega) _ | refine Below.setCell ?_ (by simp; omega) _)⟩
          | some x =>
            rw [ho] at hout
            have hgt : F < As.length := by
              have := hiso.out
              rw [ho] at this
              exact of_decide_eq_true this.symm
            have hgtI : (F : Int) < (As.length : Int) := by omega
            obtain ⟨y, rfl, _⟩ := hout
            unfold An.val
            clear hiso ho
            dsimp only
            go_wp2_with fail
            refine (mk.out _).mono ?_
            rintro e w3 ⟨rfl, hw3⟩
            have bA : Below w2.heap.size w2 w3 := by rw [hw3]; exact (Below.refl _ _).alloc (Nat.le_refl _) _
            have SA3 := hide (SA.out.later bA)
            have SM3 := hide (SM.out.later bA)
            have B6 := hide (B5.out.trans (bA.mono (by omega)))
            clear bA hw3 SA SM B5 mk
            dsimp only
            by_cases hmk : (F : Int) ≤ (Ms.length : Int)
            · have hd : decide ((F : Int) ≤ (Ms.length : Int)) = true := decide_eq_true hmk
              rw [hd]
              have hFM : F ≤ Ms.length := by omega
              clear hd
              have fin : Hid ((∀ (i : Nat) (x : An), As[i]? = some x → x.n ≠ S ∧ ∀ (t : Nat) (z : Mk), Ms[t]? = some z → z.n ≠ x.n) → False) := fun hall =>
                meet hGA.out.1 hG.out.1 hS0 SN.out hG.out.2 (by rw [List.length_map]; exact hgt) (by rw [List.length_map]; exact hFM) (fun h => by
                  obtain ⟨x, hx, e⟩ := List.mem_map.1 h
                  obtain ⟨i, hi, rfl⟩ := List.mem_iff_getElem.1 hx
                  exact (hall i _ (List.getElem?_eq_getElem hi)).1 e) (fun v hv hv2 => by
                  obtain ⟨x, hx, e⟩ := List.mem_map.1 hv
                  obtain ⟨i, hi, rfl⟩ := List.mem_iff_getElem.1 hx
                  obtain ⟨z, hz, e2⟩ := List.mem_map.1 hv2
                  obtain ⟨t, ht, rfl⟩ := List.mem_iff_getElem.1 hz
                  exact (hall i _ (List.getElem?_eq_getElem hi)).2 t _ (List.getElem?_eq_getElem ht) (e2.trans e.symm))
              clear hG hGA
              go_wp2_with fail
              go_loopw [17] (fun i wr => ∃ (p d : Nat), i = .int .i64 (p : Int) ∧ p ≤ As.length ∧ Hid (∀ (i : Nat) (x : An), i < p → As[i]? = some x → x.n ≠ S ∧ ∀ (t : Nat) (z : Mk), Ms[t]? = some z → z.n ≠ x.n) ∧ wr = w3.drewN d) (fun i _ => As.length - (intOf i).toNat)
              case atStart => exact ⟨0, 0, rfl, Nat.zero_le _, fun i x h => absurd h (Nat.not_lt_zero _), rfl⟩
              case round =>
                obtain ⟨p, d, rfl, hp, hP, rfl⟩ := hrel
                by_cases hpl : p < As.length
                · have hg : As[p]? = some As[p] := List.getElem?_eq_getElem hpl
                  obtain ⟨q, o, rfl, hq, y0, _, _, _, _, _⟩ := (SA3.out.drewN d).AnA hg
                  have HG := hide hg
                  clear hg
                  generalize As[p] = x at *
                  by_cases hxs : x.n = S
                  · have hb : (x.n == S) = true := by simp [hxs]
                    clear hP fin
                    go_wp2
                    go_ret
                    exact ⟨rfl, belNN B6.out d⟩
                  · have hb : (x.n == S) = false := by simp [hxs]
                    go_wp2_with fail
                    go_loopw [18] (fun i wr => ∃ (t d' : Nat), i = .int .i64 (t : Int) ∧ t ≤ Ms.length ∧ Hid (∀ (t' : Nat) (z : Mk), t' < t → Ms[t']? = some z → z.n ≠ x.n) ∧ wr = w3.drewN d') (fun i _ => Ms.length - (intOf i).toNat)
                    case atStart => exact ⟨0, d, rfl, Nat.zero_le _, fun i x h => absurd h (Nat.not_lt_zero _), rfl⟩
                    case round =>
                      obtain ⟨t, d', rfl, ht, hT, rfl⟩ := hrel
                      by_cases htl : t < Ms.length
                      · have hg : Ms[t]? = some Ms[t] := List.getElem?_eq_getElem htl
                        obtain ⟨q2, o2, rfl, hq2, z0, _, _⟩ := (SM3.out.drewN d').MkA hg
                        obtain ⟨q3, o3, e3, hq3, x0, _, _, _, _, _⟩ := (SA3.out.drewN d').AnA HG.out
                        cases e3
                        have HT := hide hg
                        clear hg
                        generalize Ms[t] = z at *
                        by_cases hzx : z.n = x.n
                        · have hb2 : (z.n == x.n) = true := by simp [hzx]
                          clear hP hT fin
                          go_wp2_with fail
                          have s0 : (w3.drewN d').drew.cell? ⟨q2, o2 + t * 3, none⟩ = some (.int .i64 z.n) ∧ (w3.drewN d').drew.cell? ⟨q, o + p * 6, none⟩ = some (.int .i64 x.n) := ⟨z0, x0⟩
                          go_region_held3 (fun v => v.cell? ⟨q2, o2 + t * 3, none⟩ = some (.int .i64 z.n) ∧ v.cell? ⟨q, o + p * 6, none⟩ = some (.int .i64 x.n)) (with_reducible assumption) (fail)
                          go_wp2
                          go_ret
                          exact ⟨rfl, belNN B6.out (d' + 1)⟩
                        · have hb2 : (z.n == x.n) = false := by simp [hzx]
                          go_wp2_with fail
                          have s0 : (w3.drewN d').drew.cell? ⟨q2, o2 + t * 3, none⟩ = some (.int .i64 z.n) ∧ (w3.drewN d').drew.cell? ⟨q, o + p * 6, none⟩ = some (.int .i64 x.n) := ⟨z0, x0⟩
                          go_region_held3 (fun v => v.cell? ⟨q2, o2 + t * 3, none⟩ = some (.int .i64 z.n) ∧ v.cell? ⟨q, o + p * 6, none⟩ = some (.int .i64 x.n)) (with_reducible assumption) (fail)
                          go_wp2
                          go_round
                          case rel =>
                            refine ⟨t + 1, d' + 1, by go_num, by omega, fun t' z' ht' hz' => ?_, rfl⟩
                            by_cases e : t' = t
                            · subst e
                              have := HT.out.symm.trans hz'
                              cases this
                              exact hzx
                            · exact hT.out t' z' (by omega) hz'
                          case measure => simp [intOf]; omega
                      · obtain rfl : t = Ms.length := by omega
                        go_wp2
                        go_round
                        case rel =>
                          refine ⟨p + 1, d', by go_num, by omega, fun i x' hi hx' => ?_, rfl⟩
                          by_cases e : i = p
                          · subst e
                            have := HG.out.symm.trans hx'
                            cases this
                            exact ⟨hxs, fun t' z hz => hT.out t' z (List.getElem?_eq_some_iff.1 hz).1 hz⟩
                          · exact hP.out i x' (by omega) hx'
                        case measure => simp [intOf]; omega
                · exact (fin.out (fun i x hx => hP.out i x (by have := (List.getElem?_eq_some_iff.1 hx).1; omega) hx)).elim
            · have hd : decide ((F : Int) ≤ (Ms.length : Int)) = false := decide_eq_false hmk
              rw [hd]
              clear hd
              go_wp2
              go_ret
              exact ⟨rfl, B6.out⟩
theorem meet_came (f s : Int) (a2 a3 : Option Addr) (n2 c2 n3 c3 : Nat) (w : World) (h2 : ∃ P : List Int, SlY yI w a2 n2 c2 P) (h3 : ∃ P : List Int, SlY yI w a3 n3 c3 P) :
    Calls Try.prog 11 #[.int .i64 f, .int .i64 s, .slice a2 n2 c2, .slice a3 n3 c3] w fun e w' => e = .returned (.bool true) ∧ Below w.heap.size w w' := by
  obtain ⟨P, h2⟩ := h2
  obtain ⟨Q, h3⟩ := h3
  exact meet_walk f s P Q a2 a3 n2 c2 n3 c3 w h2 h3

end Go.Proofs.Ytnhonkgondljjaa
