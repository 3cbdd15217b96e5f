import Derived.Test.YtjkleldoeojbbaaK18
namespace Go.Proofs.Ytjkleldoeojbbaa
open Go.RowKit Go.Maps
open Classical
set_option linter.unusedVariables false
set_option linter.unusedSimpArgs false

/-- The least End of the answered calls among the first i that do not stand. -/
def snI (l : List Kl) (s : List Bool) : Nat → Int
  | 0 => 9223372036854775807
  | i + 1 => match l[i]? with
    | some x => if ansK x && !at9 s i then min (snI l s i) x.e else snI l s i
    | none => snI l s i
theorem snI_at {l : List Kl} {s : List Bool} {i : Nat} {x : Kl} (h : l[i]? = some x) : snI l s (i + 1) = if ansK x && !at9 s i then min (snI l s i) x.e else snI l s i := by
  simp [snI, h]
/-- The same, and of those that stand in a list of places. -/
def snO (l : List Kl) (t : Int) : List Int → Int
  | [] => t
  | p :: r => match l[p.toNat]? with
    | some x => if ansK x then min (snO l t r) x.e else snO l t r
    | none => snO l t r
theorem snO_at {l : List Kl} {t : Int} {Ord : List Int} {j : Nat} {p : Int} {x : Kl} (h : Ord[j]? = some p) (hx : l[p.toNat]? = some x) : snO l t (Ord.drop j) = if ansK x then min (snO l t (Ord.drop (j + 1))) x.e else snO l t (Ord.drop (j + 1)) := by
  have hj := (List.getElem?_eq_some_iff.1 h).1
  have he := (List.getElem?_eq_some_iff.1 h).2
  rw [List.drop_eq_getElem_cons hj, he, snO, hx]
/-- All are places. -/
def plc (n : Nat) (Ord : List Int) : Prop := ∀ p ∈ Ord, 0 ≤ p ∧ p < (n : Int)
/-- What soonestLeft answers. -/
def snL (l : List Kl) (s : List Bool) (Ord : List Int) : List Int := (List.range Ord.length).map fun j => snO l (snI l s l.length) (Ord.drop j)
theorem snL_get {l : List Kl} {s : List Bool} {Ord : List Int} {j : Nat} (h : j < Ord.length) : (snL l s Ord)[j]? = some (snO l (snI l s l.length) (Ord.drop j)) := by
  simp [snL, h]
theorem snL_len (l : List Kl) (s : List Bool) (Ord : List Int) : (snL l s Ord).length = Ord.length := by simp [snL]
set_option maxRecDepth 100000 in
set_option maxHeartbeats 1000000 in
theorem soonest_any (L : List Kl) (a : Option Addr) (c : Nat) (Ord : List Int) (a2 : Option Addr) (c2 : Nat) (D : List Bool) (a3 : Option Addr) (c3 : Nat) (w : World) (h : SlY yK w a L.length c L) (h2 : SlY yN w a2 Ord.length c2 Ord) (h3 : SlY yT w a3 D.length c3 D) (hl : L.length ≤ D.length) (hp : plc L.length Ord) (hb : Ord.length * 8 ≤ 140737488355328) :
    Calls Try.prog 77 #[.slice a L.length c, .slice a2 Ord.length c2, .slice a3 D.length c3] w fun e w' => ∃ v, e = .returned v ∧ OwnY yN w.heap.size w' v (snL L D Ord) ∧ Below w.heap.size w w' := by
  have hmx := h.max
  have hcp := h.cap
  have hmx2 := h2.max
  have hcp2 := h2.cap
  have hmx3 := h3.max
  have hcp3 := h3.cap
  unfold maxLen at hmx hmx2 hmx3
  have H := hide h
  have H2 := hide h2
  have H3 := hide h3
  have HP := hide hp
  clear h h2 h3 hp
  go_enter Try.func77, Try.ntmps77
  go_wp2
  go_loopw [15, 7] (fun i t wr => ∃ j : Nat, i = .int .i64 (j : Int) ∧ j ≤ L.length ∧ t = .int .i64 (snI L D j) ∧ Below w.heap.size w wr) (fun i _ _ => L.length - (intOf i).toNat)
  case atStart => exact ⟨0, rfl, Nat.zero_le _, rfl, Below.refl _ _⟩
  case round =>
    obtain ⟨j, rfl, hj, rfl, hbr⟩ := hrel
    by_cases hlt : j < L.length
    · obtain ⟨x, hx⟩ : ∃ x, L[j]? = some x := ⟨_, List.getElem?_eq_getElem hlt⟩
      obtain ⟨d, hd⟩ : ∃ d, D[j]? = some d := ⟨_, List.getElem?_eq_getElem (by omega)⟩
      obtain ⟨q, o, rfl, KX⟩ := (H.out.on hbr (Nat.le_refl _)).kl hx
      obtain ⟨q2, o2, rfl, hq2, hc2⟩ := (H3.out.on hbr (Nat.le_refl _)).tr hd
      have HS := hide (snI_at (s := D) hx)
      have ha9 : Hid (at9 D j = d) := at9_get hd
      obtain ⟨_, e0, e1, e2, e3, e4, e5, e6, e7, e8, e9⟩ := KX
      have hdl : j < D.length := by omega
      have hsz := hbr.size
      have BH := hide hbr
      clear hbr
      have ci := fun W => isAnswered_any x W
      have kx := hide (KB.new wr x 66)
      have bx := hide ((Below.refl wr.heap.size wr).alloc (Nat.le_refl _) (.cells x.cs.toArray 66))
      unfold Kl.val at ci
      unfold Kl.cs at kx bx
      have n3 : q2 ≠ wr.heap.size := by omega
      cases ha : ansK x with
      | false =>
        rw [ha] at ci
        have HS2 : Hid (snI L D (j + 1) = snI L D j) := by have := HS.out; rw [ha] at this; exact this
        generalize snI L D j = X at *
        go_wp2_with (first
          | (go_at_call 49; refine (ci _).mono ?_; rintro e w1 ⟨rfl, b1⟩)
          | go_in)
        have B1 := hide (BH.out.trans ((bx.out.trans (b1.mono (by simp))).mono hsz))
        go_round
        case rel => exact ⟨j + 1, by go_num, by omega, by rw [HS2.out], B1.out⟩
        case measure => simp [intOf]; omega
      | true =>
        rw [ha] at ci
        cases d with
        | true =>
          have HS2 : Hid (snI L D (j + 1) = snI L D j) := by have := HS.out; rw [ha, ha9.out] at this; exact this
          generalize snI L D j = X at *
          go_wp2_with (first
            | (go_at_call 49; refine (ci _).mono ?_; rintro e w1 ⟨rfl, b1⟩; have hc3 := ((bx.out.trans (b1.mono (by simp))).cell (p := ⟨q2, o2 + j, none⟩) hq2).trans hc2)
            | go_in)
          have B1 := hide (BH.out.trans ((bx.out.trans (b1.mono (by simp))).mono hsz))
          go_round
          case rel => exact ⟨j + 1, by go_num, by omega, by rw [HS2.out], B1.out⟩
          case measure => simp [intOf]; omega
        | false =>
          have HS2 : Hid (snI L D (j + 1) = min (snI L D j) x.e) := by have := HS.out; rw [ha, ha9.out] at this; exact this
          generalize snI L D j = X at *
          go_wp2_with (first
            | (go_at_call 49; refine (ci _).mono ?_; rintro e w1 ⟨rfl, b1⟩; have hc3 := ((bx.out.trans (b1.mono (by simp))).cell (p := ⟨q2, o2 + j, none⟩) hq2).trans hc2; have k6 := (kx.out.later b1).c6)
            | go_in)
          have B1 := hide (BH.out.trans ((bx.out.trans (b1.mono (by simp))).mono hsz))
          go_round
          case rel => exact ⟨j + 1, by go_num, by omega, by rw [HS2.out], B1.out⟩
          case measure => simp [intOf]; omega
    · obtain rfl : j = L.length := by omega
      have BH := hide hbr
      clear hbr
      have HX : Hid (∀ Y, snI L D L.length = Y → ∀ j, j < Ord.length → (snL L D Ord)[j]? = some (snO L Y (Ord.drop j))) := fun Y hY j hj => by rw [← hY]; exact snL_get hj
      generalize hXe : snI L D L.length = X at *
      replace HX := HX.out X rfl
      have HX2 := hide HX
      clear HX hXe
      go_wp2_with (at_make; go_must (refine makeY kN _ rfl (.tmp 35) rfl Ord.length rfl (by unfold maxLen; omega) (by show Ord.length * 8 ≤ _; omega) ?_; intro w1 o1 b1))
      have O1 := hide o1
      have B1 := hide (BH.out.trans (b1.mono BH.out.size))
      have zz := BH.out.size
      have z1 := b1.size
      clear o1 b1
      generalize wr.heap.size = g at *
      go_loopw [11, 7] (fun i t wq => ∃ k : Nat, i = .int .i64 ((k : Int) - 1) ∧ k ≤ Ord.length ∧ t = .int .i64 (snO L X (Ord.drop k)) ∧ ∃ M, OwnY yN g wq (.slice (some ⟨g, 0, none⟩) Ord.length Ord.length) M ∧ M.length = Ord.length ∧ (∀ j, k ≤ j → j < Ord.length → M[j]? = some (snO L X (Ord.drop j))) ∧ Below w.heap.size w wq) (fun i _ _ => (intOf i + 1).toNat)
      case atStart => exact ⟨Ord.length, rfl, Nat.le_refl _, by simp [snO], _, O1.out, by simp, fun j h1 h2 => by omega, B1.out⟩
      case round =>
        obtain ⟨k, rfl, hk, rfl, M, oM, hML, hMG, hbr⟩ := hrel
        have OM := hide oM
        have ML := hide hML
        have MG := hide hMG
        have BR := hide hbr
        have hzr := hbr.size
        clear oM hML hMG hbr
        cases k with
        | zero =>
          rw [show (((0 : Nat) : Int) - 1) = -1 from rfl]
          have HM : Hid (M = snL L D Ord) := by
            show _ = _
            apply List.ext_getElem?
            intro j
            by_cases hj : j < Ord.length
            · rw [MG.out j (Nat.zero_le _) hj, HX2.out j hj]
            · rw [List.getElem?_eq_none (by rw [ML.out]; omega), List.getElem?_eq_none (by rw [snL_len]; omega)]
          go_wp2
          go_ret
          exact ⟨_, rfl, by rw [← HM.out]; exact OM.out.low zz, BR.out⟩
        | succ m =>
          rw [show (((m + 1 : Nat) : Int) - 1) = (m : Int) by omega]
          have hml : m < Ord.length := by omega
          obtain ⟨p, hp⟩ : ∃ p, Ord[m]? = some p := ⟨_, List.getElem?_eq_getElem hml⟩
          have hpp := HP.out p (List.mem_of_getElem? hp)
          obtain ⟨pn, rfl⟩ : ∃ pn : Nat, p = (pn : Int) := ⟨p.toNat, by omega⟩
          have hpn : pn < L.length := by omega
          obtain ⟨x, hx⟩ : ∃ x, L[pn]? = some x := ⟨_, List.getElem?_eq_getElem hpn⟩
          obtain ⟨q2, o2, rfl, hq2, hc2⟩ := (H2.out.on BR.out (Nat.le_refl _)).nm hp
          obtain ⟨q, o, rfl, KX⟩ := (H.out.on BR.out (Nat.le_refl _)).kl hx
          obtain ⟨_, e0, e1, e2, e3, e4, e5, e6, e7, e8, e9⟩ := KX
          have HS := hide (snO_at (t := X) hp (by rw [Int.toNat_natCast]; exact hx))
          obtain ⟨mo, hmm⟩ : ∃ mo, M[m]? = some mo := ⟨_, List.getElem?_eq_getElem (by rw [ML.out]; exact hml)⟩
          have ci := fun W => isAnswered_any x W
          have kx := hide (KB.new wr x 66)
          have bx := hide ((Below.refl wr.heap.size wr).alloc (Nat.le_refl _) (.cells x.cs.toArray 66))
          unfold Kl.val at ci
          unfold Kl.cs at kx bx
          clear hpp
          cases ha : ansK x with
          | false =>
            rw [ha] at ci
            have HS2 : Hid (snO L X (Ord.drop m) = snO L X (Ord.drop (m + 1))) := by have := HS.out; rw [ha] at this; exact this
            have HN : Hid (∀ U, (∀ j, m ≤ j → j < Ord.length → (M.set m U)[j]? = some (if j = m then U else snO L X (Ord.drop j)))) := fun U j h1 h2 => by
              by_cases e : j = m
              · subst e; rw [if_pos rfl, List.getElem?_set_self (by rw [ML.out]; exact h2)]
              · rw [if_neg e, List.getElem?_set_ne (fun e2 => e e2.symm)]; exact MG.out j (by omega) h2
            generalize hgen : snO L X (Ord.drop (m + 1)) = Y at *
            go_wp2_with (first
              | (go_at_call 49; refine (ci _).mono ?_; rintro e w2 ⟨rfl, b2⟩; have hb3 := bx.out.trans (b2.mono (by simp)); have oM3 := OM.out.grow hb3; have cm3 := oM3.nm hmm; have fm3 := oM3.free m)
              | go_in)
            have O4 := hide (oM3.nmSet hmm Y)
            have B4 : Hid (Below w.heap.size w (w2.setCell ⟨g, m, none⟩ (.int .i64 Y))) := (BR.out.trans (hb3.mono hzr)).setCell (by show w.heap.size ≤ g; omega) _
            go_round
            case rel => exact ⟨m, by go_num, by omega, by rw [HS2.out], _, O4.out, by rw [List.length_set]; exact ML.out, fun j h1 h2 => by rw [HN.out _ j h1 h2]; split; rename_i e; rw [e, HS2.out]; rfl, B4.out⟩
            case measure => simp [intOf]
          | true =>
            rw [ha] at ci
            have HS2 : Hid (snO L X (Ord.drop m) = min (snO L X (Ord.drop (m + 1))) x.e) := by have := HS.out; rw [ha] at this; exact this
            have HN : Hid (∀ U, (∀ j, m ≤ j → j < Ord.length → (M.set m U)[j]? = some (if j = m then U else snO L X (Ord.drop j)))) := fun U j h1 h2 => by
              by_cases e : j = m
              · subst e; rw [if_pos rfl, List.getElem?_set_self (by rw [ML.out]; exact h2)]
              · rw [if_neg e, List.getElem?_set_ne (fun e2 => e e2.symm)]; exact MG.out j (by omega) h2
            generalize hgen : snO L X (Ord.drop (m + 1)) = Y at *
            go_wp2_with (first
              | (go_at_call 49; refine (ci _).mono ?_; rintro e w2 ⟨rfl, b2⟩; have hb3 := bx.out.trans (b2.mono (by simp)); have oM3 := OM.out.grow hb3; have cm3 := oM3.nm hmm; have fm3 := oM3.free m; have k6 := (kx.out.later b2).c6)
              | go_in)
            have O4 := hide (oM3.nmSet hmm (min Y x.e))
            have B4 : Hid (Below w.heap.size w (w2.setCell ⟨g, m, none⟩ (.int .i64 (min Y x.e)))) := (BR.out.trans (hb3.mono hzr)).setCell (by show w.heap.size ≤ g; omega) _
            go_round
            case rel => exact ⟨m, by go_num, by omega, by rw [HS2.out], _, O4.out, by rw [List.length_set]; exact ML.out, fun j h1 h2 => by rw [HN.out _ j h1 h2]; split; rename_i e; rw [e, HS2.out]; rfl, B4.out⟩
            case measure => simp [intOf]

end Go.Proofs.Ytjkleldoeojbbaa
