import Derived.ChangeOld
import Derived.ProofKit
import Derived.OpenShut
import Derived.Deep.SlicePairs
import Derived.SizedLaws
import Derived.Test.YteamgkadhlbflaaA4
set_option maxRecDepth 100000
set_option linter.unusedVariables false
set_option linter.unusedSimpArgs false
namespace Go.Proofs.Yteamgkadhlbflaa
open Go.RowKit Go.Maps
open Classical
def snI (l : List Kl) (s : List Bool) : Nat → Int
  | 0 => 9223372036854775807
  | i + 1 => match l[i]? with
    | some x => if ansK x && !at9 s i then min (snI l s i) x.e else snI l s i
    | none => snI l s i
theorem snI_at {l : List Kl} {s : List Bool} {i : Nat} {x : Kl} (h : l[i]? = some x) : snI l s (i + 1) = if ansK x && !at9 s i then min (snI l s i) x.e else snI l s i := by
  simp [snI, h]
def snO (l : List Kl) (t : Int) : List Int → Int
  | [] => t
  | p :: r => match l[p.toNat]? with
    | some x => if ansK x then min (snO l t r) x.e else snO l t r
    | none => snO l t r
theorem snO_at {l : List Kl} {t : Int} {Ord : List Int} {j : Nat} {p : Int} {x : Kl} (h : Ord[j]? = some p) (hx : l[p.toNat]? = some x) : snO l t (Ord.drop j) = if ansK x then min (snO l t (Ord.drop (j + 1))) x.e else snO l t (Ord.drop (j + 1)) := by
  have hj := (List.getElem?_eq_some_iff.1 h).1
  have he := (List.getElem?_eq_some_iff.1 h).2
  rw [List.drop_eq_getElem_cons hj, he, snO, hx]
def plc (n : Nat) (Ord : List Int) : Prop := ∀ p ∈ Ord, 0 ≤ p ∧ p < (n : Int)
def snL (l : List Kl) (s : List Bool) (Ord : List Int) : List Int := (List.range Ord.length).map fun j => snO l (snI l s l.length) (Ord.drop j)
theorem snL_get {l : List Kl} {s : List Bool} {Ord : List Int} {j : Nat} (h : j < Ord.length) : (snL l s Ord)[j]? = some (snO l (snI l s l.length) (Ord.drop j)) := by
  simp [snL, h]
theorem snL_len (l : List Kl) (s : List Bool) (Ord : List Int) : (snL l s Ord).length = Ord.length := by simp [snL]
set_option maxHeartbeats 1000000 in
theorem soonest_any (L : List Kl) (a : Option Addr) (c : Nat) (Ord : List Int) (a2 : Option Addr) (c2 : Nat) (D : List Bool) (a3 : Option Addr) (c3 : Nat) (w : World) (h : SlY yK w a L.length c L) (h2 : SlY yN w a2 Ord.length c2 Ord) (h3 : SlY yT w a3 D.length c3 D) (hl : L.length ≤ D.length) (hp : plc L.length Ord) (hb : Ord.length * 8 ≤ 140737488355328) :
    Calls Try.prog 56 #[.slice a L.length c, .slice a2 Ord.length c2, .slice a3 D.length c3] w fun e w' => ∃ v, e = .returned v ∧ OwnY yN w.heap.size w' v (snL L D Ord) ∧ Below w.heap.size w w' := by
  have hmx := h.max
  have hcp := h.cap
  have hmx2 := h2.max
  have hcp2 := h2.cap
  have hmx3 := h3.max
  have hcp3 := h3.cap
  unfold maxLen at hmx hmx2 hmx3
  have H := hide h
  have H2 := hide h2
  have H3 := hide h3
  have HP := hide hp
  clear h h2 h3 hp
  go_enter Try.func56, Try.ntmps56
  go_wp2
  go_loopw [15, 7] (fun i t wr => ∃ j : Nat, i = .int .i64 (j : Int) ∧ j ≤ L.length ∧ t = .int .i64 (snI L D j) ∧ Below w.heap.size w wr) (fun i _ _ => L.length - (intOf i).toNat)
  case atStart => exact ⟨0, rfl, Nat.zero_le _, rfl, Below.refl _ _⟩
  case round =>
    obtain ⟨j, rfl, hj, rfl, hbr⟩ := hrel
    by_cases hlt : j < L.length
    · obtain ⟨x, hx⟩ : ∃ x, L[j]? = some x := ⟨_, List.getElem?_eq_getElem hlt⟩
      obtain ⟨d, hd⟩ : ∃ d, D[j]? = some d := ⟨_, List.getElem?_eq_getElem (by omega)⟩
      obtain ⟨q, o, rfl, KX⟩ := (H.out.on hbr (Nat.le_refl _)).kl hx
      obtain ⟨q2, o2, rfl, hq2, hc2⟩ := (H3.out.on hbr (Nat.le_refl _)).tr hd
      have HS := hide (snI_at (s := D) hx)
      have ha9 : Hid (at9 D j = d) := at9_get hd
      obtain ⟨_, e0, e1, e2, e3, e4, e5, e6, e7, e8, e9⟩ := KX
      have hdl : j < D.length := by omega
      have hsz := hbr.size
      have BH := hide hbr
      clear hbr
      have ci := fun W => isAnswered_any x W
      have kx := hide (KB.new wr x 45)
      have bx := hide ((Below.refl wr.heap.size wr).alloc (Nat.le_refl _) (.cells x.cs.toArray 45))
      unfold Kl.val at ci
      unfold Kl.cs at kx bx
      have n3 : q2 ≠ wr.heap.size := by omega
      cases ha : ansK x with
      | false =>
        rw [ha] at ci
        have HS2 : Hid (snI L D (j + 1) = snI L D j) := by have := HS.out; rw [ha] at this; exact this
        generalize snI L D j = X at *
        go_wp2_with (first
          | (go_at_call 54; refine (ci _).mono ?_; rintro e w1 ⟨rfl, b1⟩)
          | go_in)
        have B1 := hide (BH.out.trans ((bx.out.trans (b1.mono (by simp))).mono hsz))
        go_round
        case rel => exact ⟨j + 1, by go_num, by omega, by rw [HS2.out], B1.out⟩
        case measure => simp [intOf]; omega
      | true =>
        rw [ha] at ci
        cases d with
        | true =>
          have HS2 : Hid (snI L D (j + 1) = snI L D j) := by have := HS.out; rw [ha, ha9.out] at this; exact this
          generalize snI L D j = X at *
          go_wp2_with (first
            | (go_at_call 54; refine (ci _).mono ?_; rintro e w1 ⟨rfl, b1⟩; have hc3 := ((bx.out.trans (b1.mono (by simp))).cell (p := ⟨q2, o2 + j, none⟩) hq2).trans hc2)
            | go_in)
          have B1 := hide (BH.out.trans ((bx.out.trans (b1.mono (by simp))).mono hsz))
          go_round
          case rel => exact ⟨j + 1, by go_num, by omega, by rw [HS2.out], B1.out⟩
          case measure => simp [intOf]; omega
        | false =>
          have HS2 : Hid (snI L D (j + 1) = min (snI L D j) x.e) := by have := HS.out; rw [ha, ha9.out] at this; exact this
          generalize snI L D j = X at *
          go_wp2_with (first
            | (go_at_call 54; refine (ci _).mono ?_; rintro e w1 ⟨rfl, b1⟩; have hc3 := ((bx.out.trans (b1.mono (by simp))).cell (p := ⟨q2, o2 + j, none⟩) hq2).trans hc2; have k6 := (kx.out.later b1).c6)
            | go_in)
          have B1 := hide (BH.out.trans ((bx.out.trans (b1.mono (by simp))).mono hsz))
          go_round
          case rel => exact ⟨j + 1, by go_num, by omega, by rw [HS2.out], B1.out⟩
          case measure => simp [intOf]; omega
    · obtain rfl : j = L.length := by omega
      have BH := hide hbr
      clear hbr
      have HX : Hid (∀ Y, snI L D L.length = Y → ∀ j, j < Ord.length → (snL L D Ord)[j]? = some (snO L Y (Ord.drop j))) := fun Y hY j hj => by rw [← hY]; exact snL_get hj
      generalize hXe : snI L D L.length = X at *
      replace HX := HX.out X rfl
      have HX2 := hide HX
      clear HX hXe
      go_wp2_with (at_make; go_must (refine makeY kN _ rfl (.tmp 35) rfl Ord.length rfl (by unfold maxLen; omega) (by show Ord.length * 8 ≤ _; omega) ?_; intro w1 o1 b1))
      have O1 := hide o1
      have B1 := hide (BH.out.trans (b1.mono BH.out.size))
      have zz := BH.out.size
      have z1 := b1.size
      clear o1 b1
      generalize wr.heap.size = g at *
      go_loopw [11, 7] (fun i t wq => ∃ k : Nat, i = .int .i64 ((k : Int) - 1) ∧ k ≤ Ord.length ∧ t = .int .i64 (snO L X (Ord.drop k)) ∧ ∃ M, OwnY yN g wq (.slice (some ⟨g, 0, none⟩) Ord.length Ord.length) M ∧ M.length = Ord.length ∧ (∀ j, k ≤ j → j < Ord.length → M[j]? = some (snO L X (Ord.drop j))) ∧ Below w.heap.size w wq) (fun i _ _ => (intOf i + 1).toNat)
      case atStart => exact ⟨Ord.length, rfl, Nat.le_refl _, by simp [snO], _, O1.out, by simp, fun j h1 h2 => by omega, B1.out⟩
      case round =>
        obtain ⟨k, rfl, hk, rfl, M, oM, hML, hMG, hbr⟩ := hrel
        have OM := hide oM
        have ML := hide hML
        have MG := hide hMG
        have BR := hide hbr
        have hzr := hbr.size
        clear oM hML hMG hbr
        cases k with
        | zero =>
          rw [show (((0 : Nat) : Int) - 1) = -1 from rfl]
          have HM : Hid (M = snL L D Ord) := by
            show _ = _
            apply List.ext_getElem?
            intro j
            by_cases hj : j < Ord.length
            · rw [MG.out j (Nat.zero_le _) hj, HX2.out j hj]
            · rw [List.getElem?_eq_none (by rw [ML.out]; omega), List.getElem?_eq_none (by rw [snL_len]; omega)]
          go_wp2
          go_ret
          exact ⟨_, rfl, by rw [← HM.out]; exact OM.out.low zz, BR.out⟩
        | succ m =>
          rw [show (((m + 1 : Nat) : Int) - 1) = (m : Int) by omega]
          have hml : m < Ord.length := by omega
          obtain ⟨p, hp⟩ : ∃ p, Ord[m]? = some p := ⟨_, List.getElem?_eq_getElem hml⟩
          have hpp := HP.out p (List.mem_of_getElem? hp)
          obtain ⟨pn, rfl⟩ : ∃ pn : Nat, p = (pn : Int) := ⟨p.toNat, by omega⟩
          have hpn : pn < L.length := by omega
          obtain ⟨x, hx⟩ : ∃ x, L[pn]? = some x := ⟨_, List.getElem?_eq_getElem hpn⟩
          obtain ⟨q2, o2, rfl, hq2, hc2⟩ := (H2.out.on BR.out (Nat.le_refl _)).nm hp
          obtain ⟨q, o, rfl, KX⟩ := (H.out.on BR.out (Nat.le_refl _)).kl hx
          obtain ⟨_, e0, e1, e2, e3, e4, e5, e6, e7, e8, e9⟩ := KX
          have HS := hide (snO_at (t := X) hp (by rw [Int.toNat_natCast]; exact hx))
          obtain ⟨mo, hmm⟩ : ∃ mo, M[m]? = some mo := ⟨_, List.getElem?_eq_getElem (by rw [ML.out]; exact hml)⟩
          have ci := fun W => isAnswered_any x W
          have kx := hide (KB.new wr x 45)
          have bx := hide ((Below.refl wr.heap.size wr).alloc (Nat.le_refl _) (.cells x.cs.toArray 45))
          unfold Kl.val at ci
          unfold Kl.cs at kx bx
          clear hpp
          cases ha : ansK x with
          | false =>
            rw [ha] at ci
            have HS2 : Hid (snO L X (Ord.drop m) = snO L X (Ord.drop (m + 1))) := by have := HS.out; rw [ha] at this; exact this
            have HN : Hid (∀ U, (∀ j, m ≤ j → j < Ord.length → (M.set m U)[j]? = some (if j = m then U else snO L X (Ord.drop j)))) := fun U j h1 h2 => by
              by_cases e : j = m
              · subst e; rw [if_pos rfl, List.getElem?_set_self (by rw [ML.out]; exact h2)]
              · rw [if_neg e, List.getElem?_set_ne (fun e2 => e e2.symm)]; exact MG.out j (by omega) h2
            generalize hgen : snO L X (Ord.drop (m + 1)) = Y at *
            go_wp2_with (first
              | (go_at_call 54; refine (ci _).mono ?_; rintro e w2 ⟨rfl, b2⟩; have hb3 := bx.out.trans (b2.mono (by simp)); have oM3 := OM.out.grow hb3; have cm3 := oM3.nm hmm; have fm3 := oM3.free m)
              | go_in)
            have O4 := hide (oM3.nmSet hmm Y)
            have B4 : Hid (Below w.heap.size w (w2.setCell ⟨g, m, none⟩ (.int .i64 Y))) := (BR.out.trans (hb3.mono hzr)).setCell (by show w.heap.size ≤ g; omega) _
            go_round
            case rel => exact ⟨m, by go_num, by omega, by rw [HS2.out], _, O4.out, by rw [List.length_set]; exact ML.out, fun j h1 h2 => by rw [HN.out _ j h1 h2]; split; rename_i e; rw [e, HS2.out]; rfl, B4.out⟩
            case measure => simp [intOf]
          | true =>
            rw [ha] at ci
            have HS2 : Hid (snO L X (Ord.drop m) = min (snO L X (Ord.drop (m + 1))) x.e) := by have := HS.out; rw [ha] at this; exact this
            have HN : Hid (∀ U, (∀ j, m ≤ j → j < Ord.length → (M.set m U)[j]? = some (if j = m then U else snO L X (Ord.drop j)))) := fun U j h1 h2 => by
              by_cases e : j = m
              · subst e; rw [if_pos rfl, List.getElem?_set_self (by rw [ML.out]; exact h2)]
              · rw [if_neg e, List.getElem?_set_ne (fun e2 => e e2.symm)]; exact MG.out j (by omega) h2
            generalize hgen : snO L X (Ord.drop (m + 1)) = Y at *
            go_wp2_with (first
              | (go_at_call 54; refine (ci _).mono ?_; rintro e w2 ⟨rfl, b2⟩; have hb3 := bx.out.trans (b2.mono (by simp)); have oM3 := OM.out.grow hb3; have cm3 := oM3.nm hmm; have fm3 := oM3.free m; have k6 := (kx.out.later b2).c6)
              | go_in)
            have O4 := hide (oM3.nmSet hmm (min Y x.e))
            have B4 : Hid (Below w.heap.size w (w2.setCell ⟨g, m, none⟩ (.int .i64 (min Y x.e)))) := (BR.out.trans (hb3.mono hzr)).setCell (by show w.heap.size ≤ g; omega) _
            go_round
            case rel => exact ⟨m, by go_num, by omega, by rw [HS2.out], _, O4.out, by rw [List.length_set]; exact ML.out, fun j h1 h2 => by rw [HN.out _ j h1 h2]; split; rename_i e; rw [e, HS2.out]; rfl, B4.out⟩
            case measure => simp [intOf]
theorem neqE18 (x y : Operand) (a b : Int) (w : World) : (do eqGuard .neq 25 x y (.int .i64 a) (.int .i64 b); binOp .neq 25 (.int .i64 a) (.int .i64 b) : Sem Value).run Try.prog w = .ok (.bool (!decide (a = b))) w := by
  go_simp
  by_cases h : a = b <;> simp [h]
theorem ixN18 (q o n c j : Nat) (hj : j < n) (w : World) : (Instr.indexAt 35 (.slice (some ⟨q, o, none⟩) n c) (.int .i64 (j : Int))).run Try.prog w = .ok (.pointer (some ⟨q, o + j, none⟩)) w := by
  have h1 : (j : Int) < (n : Int) := by omega
  go_simp
theorem ldI18 {w : World} {q o : Nat} {x : Int} (h : w.cell? ⟨q, o, none⟩ = some (.int .i64 x)) : (Instr.loadAt 3 (.pointer (some ⟨q, o, none⟩))).run Try.prog w = .ok (.int .i64 x) w := by go_simp
theorem faK3 (q : Nat) (w : World) : (Instr.fieldAt 45 (.pointer (some ⟨q, 0, none⟩)) 3).run Try.prog w = .ok (.pointer (some ⟨q, 5, none⟩)) w := by go_simp
def rsC (r : Rs) : List Value := [.int .i64 r.1, .int .i64 r.2.1, .string r.2.2]
theorem alR18 (w : World) : (Instr.alloc 43 true (.tuple #[])).run Try.prog w = .ok (.pointer (some ⟨w.heap.size, 0, none⟩)) (w.alloc (.cells (rsC (0, 0, ByteArray.empty)).toArray 43)) := by kernel_rfl
theorem oneR18 (r : Rs) : (rsC r).toArray.all (·.oneCell') = true := by
  rw [Array.all_eq_true_iff_forall_mem]
  intro u hu
  simp only [rsC, List.mem_toArray, List.mem_cons, List.not_mem_nil, or_false] at hu
  rcases hu with rfl | rfl | rfl <;> rfl
theorem stK_plc {n : Nat} : ∀ (Ord : List Int) (s s' : List Bool), stK n Ord s = some s' → plc n Ord
  | [], s, s', h => fun p hp => by cases hp
  | p :: r, s, s', h => by
    unfold stK at h
    split at h
    · cases h
    · rename_i hc
      have ih := stK_plc r _ _ h
      intro q hq
      rcases List.mem_cons.1 hq with rfl | hq
      · omega
      · exact ih q hq
def hoA (l : List Kl) (s : List Bool) (t : Int) : Nat → List Int → List Cl → Int
  | i, [], _ => if lckK l s then (i : Int) else -1
  | i, p :: r, L => match l[p.toNat]? with
    | some x => if decide (snO l t (p :: r) < x.b) || offK L x then (i : Int) else hoA l s t (i + 1) r (dnK L x)
    | none => -1
theorem hoA_at {l : List Kl} {s : List Bool} {t : Int} {Ord : List Int} {j : Nat} {p : Int} {x : Kl} {L : List Cl} (h : Ord[j]? = some p) (hx : l[p.toNat]? = some x) : hoA l s t j (Ord.drop j) L = if decide (snO l t (Ord.drop j) < x.b) || offK L x then (j : Int) else hoA l s t (j + 1) (Ord.drop (j + 1)) (dnK L x) := by
  have hj := (List.getElem?_eq_some_iff.1 h).1
  have he := (List.getElem?_eq_some_iff.1 h).2
  rw [List.drop_eq_getElem_cons hj, he, hoA, hx]
theorem hoA_end {l : List Kl} {s : List Bool} {t : Int} (Ord : List Int) (L : List Cl) : hoA l s t Ord.length (Ord.drop Ord.length) L = if lckK l s then (Ord.length : Int) else -1 := by simp [hoA]
def hld (l : List Kl) (Ord : List Int) : Int × Int := if kchk l ≠ 0 then (0, kchk l) else match stnd l.length Ord with
  | none => (0, 182)
  | some s => (hoA l s (snI l s l.length) 0 Ord [], 0)
set_option maxHeartbeats 2000000 in
theorem holds18_any (l : List Kl) (a : Option Addr) (c : Nat) (Ord : List Int) (a2 : Option Addr) (c2 : Nat) (w : World) (h : SlY yK w a l.length c l) (h2 : SlY yN w a2 Ord.length c2 Ord) (hfx : ∀ x ∈ l, x.fits) (hb : l.length ≤ 140737488355328) (hb2 : Ord.length * 8 ≤ 140737488355328) :
    Calls Try.prog 32 #[.slice a l.length c, .slice a2 Ord.length c2] w fun e w' => e = .returned (.tuple #[.int .i64 (hld l Ord).1, .int .i64 (hld l Ord).2]) ∧ Below w.heap.size w w' := by
  go_enter Try.func32, Try.ntmps32
  go_upto_region 0 with fail
  refine wp_region_lit ?_
  refine vl_gen (fun T => Rp T 72 [(1, gw true (.slice a2 Ord.length c2)), (0, gw true (.slice a l.length c))]) (((Rp.nil rfl).cons rfl).cons rfl) (fun Z0 q0 => ?_)
  refine q0.t (.int .i64 0) (ex_assign rfl rfl) fun _ q1 => ?_;clear q0
  refine q1.t (.int .i64 0) (ex_assign rfl rfl) fun _ q2 => ?_;clear q1
  refine wpList_nil ?_
  go_upto_region 1 with fail
  refine wp_region_lit ?_
  refine q2.t (.slice a l.length c) (ex_move rfl (q2.e (j := 0) rfl)) fun _ q3 => ?_;clear q2
  refine vcallP (want_none rfl) (ex_call rfl (by simp only [List.map_toArray, List.map_cons, List.map_nil, (q3.e (j := 15) rfl), evc] <;> rfl) rfl) (check18_any l a c w h hfx) rfl q3.z (by decide) ?_
  rintro e w1 ⟨rfl, b1⟩
  refine ⟨_, rfl, q3.k fun _ q4 => ?_⟩;clear q3
  refine q4.t (.int .i64 (kchk l)) (ex_assign rfl (q4.e (j := 16) rfl)) fun _ q5 => ?_;clear q4
  refine wpList_nil ?_
  go_upto_region 2 with fail
  refine wp_region_lit ?_
  refine q5.t (.int .i64 (kchk l)) (ex_move rfl (q5.e (j := 6) rfl)) fun _ q6 => ?_;clear q5
  refine q6.t (.bool (!decide (kchk l = 0))) (ex_bin rfl (q6.e (j := 17) rfl) rfl (neqE18 _ _ _ _ _)) fun _ q7 => ?_;clear q6
  have q8 := (((((Rp.nil q7.z).cons (q7.a 0 rfl)).cons (q7.a 1 rfl)).cons (q7.a 6 rfl)).cons (q7.a 18 rfl))
  clear q7
  refine wpList_nil ?_
  by_cases hk : kchk l = 0
  · have q8x := q8.a 18 rfl
    rw [hk] at q8x
    go_upto_region 4 with fail
    refine wp_cond_false (ev q8x rfl) ?_
    clear q8x
    go_upto_region 4 with fail
    refine wp_region_lit ?_
    refine q8.t (.slice a l.length c) (ex_move rfl (q8.e (j := 0) rfl)) fun _ q9 => ?_;clear q8
    refine q9.t (.slice a2 Ord.length c2) (ex_move rfl (q9.e (j := 1) rfl)) fun _ q10 => ?_;clear q9
    refine vcallP (want_none rfl) (ex_call rfl (by simp only [List.map_toArray, List.map_cons, List.map_nil, (q10.e (j := 21) rfl), (q10.e (j := 22) rfl), evc] <;> rfl) rfl) (standing_any l a c Ord a2 c2 w1 (h.on b1 (Nat.le_refl _)) (h2.on b1 (Nat.le_refl _)) hb) rfl q10.z (by decide) ?_
    rintro e w2 ⟨v7, rfl, o7, b2⟩
    refine ⟨_, rfl, q10.k fun _ q11 => ?_⟩;clear q10
    have z1 := b1.size
    have b2w : Below w.heap.size w w2 := b1.trans (b2.mono z1)
    have z2 := b2.size
    refine q11.t (.tuple #[v7, .bool (stnd l.length Ord).isSome]) (ex_move rfl (q11.e (j := 23) rfl)) fun _ q12 => ?_;clear q11
    refine q12.t (v7) (ex_ext18 rfl (q12.e (j := 20) rfl) rfl) fun _ q13 => ?_;clear q12
    refine q13.t (.bool (stnd l.length Ord).isSome) (ex_ext18 rfl (q13.e (j := 20) rfl) rfl) fun _ q14 => ?_;clear q13
    refine q14.t (v7) (ex_assign rfl (q14.e (j := 24) rfl)) fun _ q15 => ?_;clear q14
    refine q15.t (.bool (stnd l.length Ord).isSome) (ex_assign rfl (q15.e (j := 25) rfl)) fun _ q16 => ?_;clear q15
    refine wpList_nil ?_
    go_upto_region 5 with fail
    refine wp_region_lit ?_
    refine q16.t (.bool (stnd l.length Ord).isSome) (ex_move rfl (q16.e (j := 8) rfl)) fun _ q17 => ?_;clear q16
    refine q17.t (.bool (!(stnd l.length Ord).isSome)) (ex_not rfl (q17.e (j := 26) rfl)) fun _ q18 => ?_;clear q17
    have q19 := (((((Rp.nil q18.z).cons (q18.a 0 rfl)).cons (q18.a 1 rfl)).cons (q18.a 7 rfl)).cons (q18.a 27 rfl))
    clear q18
    refine wpList_nil ?_
    cases hs : stnd l.length Ord with
    | none =>
      have hE : hld l Ord = (0, 182) := by simp [hld, hk, hs]
      have q19x := q19.a 27 rfl
      rw [hs] at q19x
      go_upto_region 6 with fail
      refine wp_cond_true (ev q19x rfl) ?_
      go_upto_region 6 with fail
      refine wp_region_lit ?_
      refine q19.t (.int .i64 0) (ex_assign rfl rfl) fun _ q20 => ?_;clear q19
      refine q20.t (.int .i64 182) (ex_assign rfl rfl) fun _ q21 => ?_;clear q20
      refine wpList_nil ?_
      go_wp2
      exact bodyPost_ret (results2_18 rfl (q21.a 4 rfl) (q21.a 5 rfl)) rfl ⟨by rw [hE], b2w⟩
    | some sx =>
      have hE : hld l Ord = (hoA l sx (snI l sx l.length) 0 (Ord.drop 0) [], 0) := by simp [hld, hk, hs]
      have q19x := q19.a 27 rfl
      rw [hs] at q19x o7
      have hsl : sx.length = l.length := by have := stK_len _ _ _ hs; simpa using this
      have hpl : plc l.length Ord := stK_plc _ _ _ hs
      replace o7 : OwnY yT w1.heap.size w2 v7 sx := o7
      obtain ⟨a7, c7, hv7, sl7, _⟩ := o7.sl kT
      go_upto_region 7 with fail
      refine wp_cond_false (ev q19x rfl) ?_
      clear q19x
      go_upto_region 7 with fail
      refine wp_region_lit ?_
      refine q19.t (.slice a l.length c) (ex_move rfl (q19.e (j := 0) rfl)) fun _ q20 => ?_;clear q19
      refine q20.t (.slice a2 Ord.length c2) (ex_move rfl (q20.e (j := 1) rfl)) fun _ q21 => ?_;clear q20
      refine q21.t (v7) (ex_move rfl (q21.e (j := 7) rfl)) fun _ q22 => ?_;clear q21
      refine vcallP (want_none rfl) (ex_call rfl (by simp only [List.map_toArray, List.map_cons, List.map_nil, (q22.e (j := 28) rfl), (q22.e (j := 29) rfl), (q22.e (j := 30) rfl), evc] <;> rfl) rfl) (by rw [hv7]; exact soonest_any l a c Ord a2 c2 sx a7 c7 w2 (h.on b2w (Nat.le_refl _)) (h2.on b2w (Nat.le_refl _)) sl7 (by omega) hpl hb2) rfl q22.z (by decide) ?_
      rintro e w3 ⟨v9, rfl, o9, b3⟩
      refine ⟨_, rfl, q22.k fun _ q23 => ?_⟩;clear q22
      have b3w : Below w.heap.size w w3 := b2w.trans (b3.mono (by omega))
      have z3 := b3.size
      refine q23.t (v9) (ex_assign rfl (q23.e (j := 31) rfl)) fun _ q24 => ?_;clear q23
      refine wpList_nil ?_
      go_upto_region 8 with fail
      refine wp_region_lit ?_
      refine vcallP (want_none rfl) (ex_call (args := #[]) rfl (by simp) rfl) (new_b w3.heap.size w3 w3 (Below.refl _ _) (Nat.le_refl _)) rfl q24.z (by decide) ?_
      rintro e w4 ⟨rfl, L4, z4⟩
      refine ⟨_, rfl, q24.k fun _ q25 => ?_⟩;clear q24
      refine q25.t (.pointer (some ⟨w3.heap.size, 0, none⟩)) (ex_assign rfl (q25.e (j := 32) rfl)) fun _ q26 => ?_;clear q25
      refine wpList_nil ?_
      go_upto_region 9 with fail
      refine wp_region_lit ?_
      refine q26.t (.slice a2 Ord.length c2) (ex_move rfl (q26.e (j := 1) rfl)) fun _ q27 => ?_;clear q26
      refine q27.t (.int .i64 (Ord.length : Int)) (ex_lenN18 rfl rfl (q27.e (j := 33) rfl)) fun _ q28 => ?_;clear q27
      refine q28.t (.int .i64 ((0 : Nat) : Int)) (ex_move rfl rfl) fun _ q29 => ?_;clear q28
      have q30 := (((((((((Rp.nil q29.z).cons (q29.a 0 rfl)).cons (q29.a 1 rfl)).cons (q29.a 7 rfl)).cons (q29.a 9 rfl)).cons (q29.a 10 rfl)).cons (q29.a 33 rfl)).cons (q29.a 34 rfl)).cons (q29.a 35 rfl))
      clear q29
      refine wpList_nil ?_
      have hmx2 := h2.max
      have hcp2 := h2.cap
      unfold maxLen at hmx2
      have hmx := h.max
      have hcp := h.cap
      unfold maxLen at hmx
      go_upto_region 10 with fail
      refine v_loop 35 Ord.length (fun j T wr => Rp T 72 [(35, gw true (.int .i64 (j : Int))), (34, gw true (.int .i64 (Ord.length : Int))), (33, gw true (.slice a2 Ord.length c2)), (10, gw true (.pointer (some ⟨w3.heap.size, 0, none⟩))), (9, gw true (v9)), (7, gw true (v7)), (1, gw true (.slice a2 Ord.length c2)), (0, gw true (.slice a l.length c))] ∧ Hid (∃ L, LedB w3.heap.size w3 wr w3.heap.size L ∧ hoA l sx (snI l sx l.length) 0 (Ord.drop 0) [] = hoA l sx (snI l sx l.length) j (Ord.drop j) L)) (fun j T w h => h.1.a 35 rfl) ⟨q30, [], L4, rfl⟩ ?_
      clear q30
      intro j T wr hj hh
      obtain ⟨q100, HJ⟩ := hh
      obtain ⟨L, hL, hR⟩ := HJ.out
      clear HJ L4
      have br := hL.bel
      have zr := br.size
      have brw : Below w.heap.size w wr := b3w.trans (br.mono (by omega))
      have hLr := hL.lt
      by_cases hit : j < Ord.length
      · obtain ⟨pp, hp⟩ : ∃ p, Ord[j]? = some p := ⟨_, List.getElem?_eq_getElem hit⟩
        have hpp := hpl pp (List.mem_of_getElem? hp)
        obtain ⟨pn, rfl⟩ : ∃ pn : Nat, pp = (pn : Int) := ⟨pp.toNat, by omega⟩
        have hpn : pn < l.length := by omega
        obtain ⟨x, hx⟩ : ∃ x, l[pn]? = some x := ⟨_, List.getElem?_eq_getElem hpn⟩
        have fx := hfx x (List.mem_of_getElem? hx)
        have hRx := hoA_at (s := sx) (t := snI l sx l.length) (L := L) hp (by rw [Int.toNat_natCast]; exact hx)
        obtain ⟨q2, o2, hq2, hq2l, hc2⟩ := (h2.on brw (Nat.le_refl _)).nm hp
        obtain ⟨qa, oa, hqa, hqal, hlie⟩ := (h.on brw (Nat.le_refl _)).place (by rintro rfl; simp at hx)
        go_upto_region 10 with fail
        refine wp_region_lit ?_
        refine q100.t (.bool true) (ex_bin rfl (q100.e (j := 35) rfl) (q100.e (j := 34) rfl) (ltT _ _ hit _)) fun _ q101 => ?_;clear q100
        refine wpList_nil ?_
        go_upto_region 11 with fail
        refine wp_cond_true (q101.e (j := 36) rfl) ?_
        go_upto_region 11 with fail
        refine wp_region_lit ?_
        refine q101.t (.int .i64 (j : Int)) (ex_move rfl (q101.e (j := 35) rfl)) fun _ q102 => ?_;clear q101
        refine q102.t (.pointer (some ⟨q2, o2 + j, none⟩)) (ex_ix rfl (q102.e (j := 33) rfl) (q102.e (j := 35) rfl) (by rw [hq2]; exact ixN18 q2 o2 Ord.length c2 j hit _)) fun _ q103 => ?_;clear q102
        refine q103.t (.int .i64 (pn : Int)) (ex_ld rfl (q103.e (j := 38) rfl) (ldI18 hc2)) fun _ q104 => ?_;clear q103
        refine q104.t (.int .i64 (j : Int)) (ex_assign rfl (q104.e (j := 37) rfl)) fun _ q105 => ?_;clear q104
        refine q105.t (.int .i64 (pn : Int)) (ex_assign rfl (q105.e (j := 39) rfl)) fun _ q106 => ?_;clear q105
        refine wpList_nil ?_
        go_upto_region 12 with fail
        refine wp_region_lit ?_
        refine q106.t (.slice a l.length c) (ex_move rfl (q106.e (j := 0) rfl)) fun _ q107 => ?_;clear q106
        refine q107.t (.int .i64 (pn : Int)) (ex_move rfl (q107.e (j := 12) rfl)) fun _ q108 => ?_;clear q107
        refine q108.t (.pointer (some ⟨qa, oa + pn * 10, none⟩)) (ex_ix rfl (q108.e (j := 40) rfl) (q108.e (j := 41) rfl) (by rw [hqa]; exact ixK qa oa l.length c pn hpn _)) fun _ q109 => ?_;clear q108
        refine q109.t (x.val) (ex_ld rfl (q109.e (j := 42) rfl) (ldEl hlie hx)) fun _ q110 => ?_;clear q109
        obtain ⟨r1, hr1⟩ : ∃ y, y = wr.alloc (.cells zK.cs.toArray 45) := ⟨_, rfl⟩
        refine vw (.pointer (some ⟨wr.heap.size, 0, none⟩)) r1 (want_none rfl) (ex_al rfl (by rw [hr1]; exact alK _)) rfl q110.z (by decide) (q110.k fun _ q111 => ?_);clear q110
        have Bz : BB r1 wr.heap.size 45 zK.cs := by rw [hr1]; exact BB.new _ _ _
        have hr1b : Below wr.heap.size wr r1 := by rw [hr1]; exact (Below.refl _ _).alloc (Nat.le_refl _) _
        clear hr1
        obtain ⟨r2, hr2⟩ : ∃ y, y = r1.setCells wr.heap.size 0 x.cs := ⟨_, rfl⟩
        refine vs r2 (want_none rfl) (ex_st rfl (q111.e (j := 13) rfl) (q111.e (j := 43) rfl) (by rw [hr2]; exact Bz.stK)) rfl ?_
        have B13 : BB r2 wr.heap.size 45 x.cs := by rw [hr2]; exact Bz.whole _ rfl
        have hr2b : Below wr.heap.size wr r2 := by rw [hr2]; exact hr1b.trans (bel_ge (upd18 _ _ _ _) hr1b.size (Nat.le_refl _))
        clear hr2 Bz hr1b
        have y2 := hr2b.size
        have hL2 := hL.on hr2b
        refine wpList_nil ?_
        go_upto_region 13 with fail
        refine wp_region_lit ?_
        refine q111.t (.pointer (some ⟨w3.heap.size, 0, none⟩)) (ex_move rfl (q111.e (j := 10) rfl)) fun _ q112 => ?_;clear q111
        refine q112.t (.pointer (some ⟨wr.heap.size, 2, none⟩)) (ex_fa rfl (q112.e (j := 13) rfl) (faK2 _ _)) fun _ q113 => ?_;clear q112
        refine q113.t (.agg #[.int .i64 x.o.k, .int .i64 x.o.s, .string x.o.v]) (ex_ld rfl (q113.e (j := 45) rfl) B13.ldO) fun _ q114 => ?_;clear q113
        obtain ⟨m2, hLm, hgm, hgmm, hgb⟩ := hL2
        refine vcallP (want_none rfl) (ex_call rfl (by simp only [List.map_toArray, List.map_cons, List.map_nil, (q114.e (j := 44) rfl), (q114.e (j := 46) rfl), evc] <;> rfl) rfl) (do3 w3.heap.size m2 L x.o.k x.o.s x.o.v fx.ow r2 hLm) rfl q114.z (by decide) ?_
        rintro e r3 ⟨rfl, m3, hL3, hm3, u3⟩
        refine ⟨_, rfl, q114.k fun _ q115 => ?_⟩;clear q114
        have y3 := u3.size
        have B13b : BB r3 wr.heap.size 45 x.cs := B13.upd u3 (by
          rintro (e | e)
          · omega
          · obtain ⟨es, xx, e6⟩ := hLm.map e
            have := B13
            unfold BB at this
            rw [e6] at this
            cases this)
        have hb3 : Below w3.heap.size w3 r3 := hgb.trans (u3.below (by omega) (fun k hk => by rcases hk with rfl | hk; exact Nat.le_refl _; exact hgmm k hk))
        obtain ⟨r4, hr4⟩ : ∃ y, y = r3.alloc (.cells (rsC (0, 0, ByteArray.empty)).toArray 43) := ⟨_, rfl⟩
        refine vw (.pointer (some ⟨r3.heap.size, 0, none⟩)) r4 (want_none rfl) (ex_al rfl (by rw [hr4]; exact alR18 _)) rfl q115.z (by decide) (q115.k fun _ q116 => ?_);clear q115
        have Bz : BB r4 r3.heap.size 43 (rsC (0, 0, ByteArray.empty)) := by rw [hr4]; exact BB.new _ _ _
        have hr4b : Below r3.heap.size r3 r4 := by rw [hr4]; exact (Below.refl _ _).alloc (Nat.le_refl _) _
        clear hr4
        obtain ⟨r5, hr5⟩ : ∃ y, y = r4.setCells r3.heap.size 0 (rsC (wd L x.o.k x.o.s x.o.v)) := ⟨_, rfl⟩
        refine vs r5 (want_none rfl) (ex_st rfl (q116.e (j := 14) rfl) (q116.e (j := 47) rfl) (by rw [hr5]; exact Bz.st 43 (rsC (wd L x.o.k x.o.s x.o.v)) rfl info3r (oneR18 _))) rfl ?_
        have B14 : BB r5 r3.heap.size 43 (rsC (wd L x.o.k x.o.s x.o.v)) := by rw [hr5]; exact Bz.whole _ rfl
        have hr5b : Below r3.heap.size r3 r5 := by rw [hr5]; exact hr4b.trans (bel_ge (upd18 _ _ _ _) hr4b.size (Nat.le_refl _))
        clear hr5 Bz hr4b
        have B13c := B13b.later hr5b
        have y5 := hr5b.size
        have hb5 : Below w3.heap.size w3 r5 := hb3.trans (hr5b.mono (by omega))
        have o9r := o9.grow hb5
        obtain ⟨a9, c9, hv9, sl9, hz9⟩ := o9r.sl kN
        obtain ⟨q9, o9o, hq9, hq9l, hc9⟩ := sl9.nm (snL_get (l := l) (s := sx) hit)
        have q117 := ((((((((((((Rp.nil q116.z).cons (q116.a 0 rfl)).cons (q116.a 1 rfl)).cons (q116.a 7 rfl)).cons (q116.a 9 rfl)).cons (q116.a 10 rfl)).cons (q116.a 33 rfl)).cons (q116.a 34 rfl)).cons (q116.a 35 rfl)).cons (q116.a 11 rfl)).cons (q116.a 13 rfl)).cons (q116.a 14 rfl))
        clear q116
        refine wpList_nil ?_
        go_upto_region 14 with fail
        refine vq_start (C := fun v => Below r5.heap.size r5 v) (by kernel_rfl) (by kernel_rfl) (Below.refl _ _).drew ?_
        refine q117.q (v9) (fun v hv => ex_move rfl (q117.e (j := 9) rfl)) fun _ q118 => ?_;clear q117
        refine q118.q (.int .i64 (j : Int)) (fun v hv => ex_move rfl (q118.e (j := 11) rfl)) fun _ q119 => ?_;clear q118
        refine q119.q (.pointer (some ⟨q9, o9o + j, none⟩)) (fun v hv => ex_ix rfl (q119.e (j := 48) rfl) (q119.e (j := 49) rfl) (by rw [hv9, hq9, snL_len]; exact ixN18 q9 o9o Ord.length c9 j hit _)) fun _ q120 => ?_;clear q119
        refine q120.q (.int .i64 (snO l (snI l sx l.length) (Ord.drop j))) (fun v hv => ex_ld rfl (q120.e (j := 50) rfl) (ldI18 ((hv.cell (p := ⟨q9, o9o + j, none⟩) hq9l).trans hc9))) fun _ q121 => ?_;clear q120
        refine q121.q (.pointer (some ⟨wr.heap.size, 5, none⟩)) (fun v hv => ex_fa rfl (q121.e (j := 13) rfl) (faK3 _ _)) fun _ q122 => ?_;clear q121
        refine q122.q (.int .i64 x.b) (fun v hv => ex_ld rfl (q122.e (j := 52) rfl) (ldI18 (((B13c.later hv).cell 5).trans rfl))) fun _ q123 => ?_;clear q122
        refine q123.q (.bool (decide (snO l (snI l sx l.length) (Ord.drop j) < x.b))) (fun v hv => ex_bin rfl (q123.e (j := 51) rfl) (q123.e (j := 53) rfl) (lssC _ _ _ _ _)) fun _ q124 => ?_;clear q123
        refine q124.q (.bool (decide (snO l (snI l sx l.length) (Ord.drop j) < x.b))) (fun v hv => ex_move rfl (q124.e (j := 54) rfl)) fun _ q125 => ?_;clear q124
        refine vq _ (x.val) (want_g rfl rfl (q125.a 55 rfl)) (fun hc v hv => ex_ld rfl (q125.e (j := 13) rfl) (B13c.later hv).ldK) rfl q125.z (by decide) (q125.k fun _ q126 => ?_);clear q125
        refine vq_call18 (true && ((decide (snO l (snI l sx l.length) (Ord.drop j) < x.b)) == false)) (.bool (ansK x)) (want_g rfl rfl (q126.a 55 rfl)) (fun hc v hv => ex_call rfl (by simp only [List.map_toArray, List.map_cons, List.map_nil, (ev (q126.a 56 rfl) hc), evc] <;> rfl) rfl) (fun hc v hv => bel18 hv (isAnswered_any x v) hv.size) rfl q126.z (by decide) (q126.k fun _ q127 => ?_);clear q126
        refine vq _ (.bool (ansK x)) (want_g rfl rfl (q127.a 55 rfl)) (fun hc v hv => ex_move rfl (ev (q127.a 57 rfl) hc)) rfl q127.z (by decide) (q127.k fun _ q128 => ?_);clear q127
        refine vq ((true && ((decide (snO l (snI l sx l.length) (Ord.drop j) < x.b)) == false)) && (ansK x == true)) (.agg (rsC (wd L x.o.k x.o.s x.o.v)).toArray) (want_g rfl rfl (q128.a 58 rfl)) (fun hc v hv => ex_ld rfl (q128.e (j := 14) rfl) ((B14.later hv).ld 43 Try.underlying43 rfl info3r)) rfl q128.z (by decide) (q128.k fun _ q129 => ?_);clear q128
        refine vq ((true && ((decide (snO l (snI l sx l.length) (Ord.drop j) < x.b)) == false)) && (ansK x == true)) (.pointer (some ⟨wr.heap.size, 7, none⟩)) (want_g rfl rfl (q129.a 58 rfl)) (fun hc v hv => ex_fa rfl (q129.e (j := 13) rfl) (faK5 _ _)) rfl q129.z (by decide) (q129.k fun _ q130 => ?_);clear q129
        refine vq ((true && ((decide (snO l (snI l sx l.length) (Ord.drop j) < x.b)) == false)) && (ansK x == true)) (.agg #[.int .i64 x.r.1, .int .i64 x.r.2.1, .string x.r.2.2]) (want_g rfl rfl (q130.a 58 rfl)) (fun hc v hv => ex_ld rfl (ev (q130.a 60 rfl) hc) (B13c.later hv).ldR) rfl q130.z (by decide) (q130.k fun _ q131 => ?_);clear q130
        refine vq ((true && ((decide (snO l (snI l sx l.length) (Ord.drop j) < x.b)) == false)) && (ansK x == true)) (.bool (!decide (wd L x.o.k x.o.s x.o.v = x.r))) (want_g rfl rfl (q131.a 58 rfl)) (fun hc v hv => ex_bin rfl (ev (q131.a 59 rfl) hc) (ev (q131.a 61 rfl) hc) (neqR18 _ _ (wd L x.o.k x.o.s x.o.v) x.r _)) rfl q131.z (by decide) (q131.k fun _ q132 => ?_);clear q131
        refine vq _ (.bool (ansK x && !decide (wd L x.o.k x.o.s x.o.v = x.r))) (want_g rfl rfl (q132.a 55 rfl)) (fun hc v hv => ex_and rfl (q132.a 58 rfl) (q132.a 62 rfl) hc) rfl q132.z (by decide) (q132.k fun _ q133 => ?_);clear q132
        refine q133.q (.bool (decide (snO l (snI l sx l.length) (Ord.drop j) < x.b) || offK L x)) (fun v hv => ex_or rfl (q133.a 55 rfl) (q133.a 63 rfl) rfl) fun _ q134 => ?_;clear q133
        refine vq_nil (fun r6 hr6 => ?_)
        have hb6 : Below w3.heap.size w3 r6 := hb5.trans (hr6.mono (by omega))
        have q135 := (((((((((((Rp.nil q134.z).cons (q134.a 0 rfl)).cons (q134.a 1 rfl)).cons (q134.a 7 rfl)).cons (q134.a 9 rfl)).cons (q134.a 10 rfl)).cons (q134.a 33 rfl)).cons (q134.a 34 rfl)).cons (q134.a 35 rfl)).cons (q134.a 11 rfl)).cons (q134.a 64 rfl))
        clear q134
        cases hcn : (decide (snO l (snI l sx l.length) (Ord.drop j) < x.b) || offK L x) with
        | true =>
          have q135x := q135.a 64 rfl
          rw [hcn] at q135x
          have hEE : hld l Ord = ((j : Int), 0) := by rw [hE, hR, hRx, hcn]; rfl
          go_upto_region 15 with fail
          refine wp_cond_true (ev q135x rfl) ?_
          go_upto_region 15 with fail
          refine wp_region_lit ?_
          refine q135.t (.int .i64 (j : Int)) (ex_move rfl (q135.e (j := 11) rfl)) fun _ q136 => ?_;clear q135
          refine q136.t (.int .i64 (j : Int)) (ex_assign rfl (q136.e (j := 65) rfl)) fun _ q137 => ?_;clear q136
          refine q137.t (.int .i64 0) (ex_assign rfl rfl) fun _ q138 => ?_;clear q137
          refine wpList_nil ?_
          go_wp2
          exact bodyPost_ret (results2_18 rfl (q138.a 4 rfl) (q138.a 5 rfl)) rfl ⟨by rw [hEE], b3w.trans (hb6.mono (by omega))⟩
        | false =>
          have q135x := q135.a 64 rfl
          rw [hcn] at q135x
          go_upto_region 16 with fail
          refine wp_cond_false (ev q135x rfl) ?_
          clear q135x
          go_upto_region 16 with fail
          refine wp_region_lit ?_
          refine q135.t (.int .i64 ((j + 1 : Nat) : Int)) (ex_bin rfl (q135.e (j := 35) rfl) rfl (add1C _ _ j (by omega) _)) fun _ q136 => ?_;clear q135
          refine q136.t (.int .i64 ((j + 1 : Nat) : Int)) (ex_move rfl (q136.e (j := 66) rfl)) fun _ q137 => ?_;clear q136
          have q138 := (((((((((Rp.nil q137.z).cons (q137.a 0 rfl)).cons (q137.a 1 rfl)).cons (q137.a 7 rfl)).cons (q137.a 9 rfl)).cons (q137.a 10 rfl)).cons (q137.a 33 rfl)).cons (q137.a 34 rfl)).cons (q137.a 35 rfl))
          clear q137
          refine wpList_nil ?_
          have h36 : Below r3.heap.size r3 r6 := hr5b.trans (hr6.mono (by omega))
          exact ⟨_, rfl, hit, q138, dnK L x, ⟨m3, hL3.upd (S := fun _ => False) (Upd.of_below h36) id (fun _ _ => id), Nat.le_refl _, fun jj e => by rcases hm3 with e2 | ⟨j2, e2, e3⟩; exact hgmm jj (e2 ▸ e); rw [e2] at e; cases e; omega, hb6⟩, by rw [hR, hRx, hcn]; rfl⟩
      · obtain rfl : j = Ord.length := by omega
        rw [hoA_end] at hR
        go_upto_region 10 with fail
        refine wp_region_lit ?_
        refine q100.t (.bool false) (ex_bin rfl (q100.e (j := 35) rfl) (q100.e (j := 34) rfl) (ltF _ _ hit _)) fun _ q101 => ?_;clear q100
        refine wpList_nil ?_
        go_upto_region 17 with fail
        refine wp_cond_false (q101.e (j := 36) rfl) ?_
        go_upto_region 17 with fail
        refine wp_region_lit ?_
        refine q101.t (.slice a l.length c) (ex_move rfl (q101.e (j := 0) rfl)) fun _ q102 => ?_;clear q101
        refine q102.t (v7) (ex_move rfl (q102.e (j := 7) rfl)) fun _ q103 => ?_;clear q102
        refine vcallP (want_none rfl) (ex_call rfl (by simp only [List.map_toArray, List.map_cons, List.map_nil, (q103.e (j := 67) rfl), (q103.e (j := 68) rfl), evc] <;> rfl) rfl) (by rw [hv7]; exact lacks_any l a c sx a7 c7 wr (h.on brw (Nat.le_refl _)) (sl7.on (b3.trans (br.mono (by omega))) (Nat.le_refl _)) (by omega)) rfl q103.z (by decide) ?_
        rintro e r1 ⟨rfl, c1⟩
        refine ⟨_, rfl, q103.k fun _ q104 => ?_⟩;clear q103
        have bE : Below w.heap.size w r1 := brw.trans (c1.mono brw.size)
        have q105 := (((Rp.nil q104.z).cons (q104.a 1 rfl)).cons (q104.a 69 rfl))
        clear q104
        refine wpList_nil ?_
        cases hlk : lckK l sx with
        | true =>
          have q105x := q105.a 69 rfl
          rw [hlk] at q105x hR
          have hEE : hld l Ord = ((Ord.length : Int), 0) := by rw [hE, hR]; rfl
          go_upto_region 18 with fail
          refine wp_cond_true (ev q105x rfl) ?_
          go_upto_region 18 with fail
          refine wp_region_lit ?_
          refine q105.t (.slice a2 Ord.length c2) (ex_move rfl (q105.e (j := 1) rfl)) fun _ q106 => ?_;clear q105
          refine q106.t (.int .i64 (Ord.length : Int)) (ex_lenN18 rfl rfl (q106.e (j := 70) rfl)) fun _ q107 => ?_;clear q106
          refine q107.t (.int .i64 (Ord.length : Int)) (ex_assign rfl (q107.e (j := 71) rfl)) fun _ q108 => ?_;clear q107
          refine q108.t (.int .i64 0) (ex_assign rfl rfl) fun _ q109 => ?_;clear q108
          refine wpList_nil ?_
          go_wp2
          exact bodyPost_ret (results2_18 rfl (q109.a 4 rfl) (q109.a 5 rfl)) rfl ⟨by rw [hEE], bE⟩
        | false =>
          have q105x := q105.a 69 rfl
          rw [hlk] at q105x hR
          have hEE : hld l Ord = (-1, 0) := by rw [hE, hR]; rfl
          go_upto_region 19 with fail
          refine wp_cond_false (ev q105x rfl) ?_
          go_upto_region 19 with fail
          refine wp_region_lit ?_
          refine q105.t (.int .i64 (-1)) (ex_assign rfl rfl) fun _ q106 => ?_;clear q105
          refine q106.t (.int .i64 0) (ex_assign rfl rfl) fun _ q107 => ?_;clear q106
          refine wpList_nil ?_
          go_wp2
          exact bodyPost_ret (results2_18 rfl (q107.a 4 rfl) (q107.a 5 rfl)) rfl ⟨by rw [hEE], bE⟩
  · have hE : hld l Ord = (0, kchk l) := by simp [hld, hk]
    have q8x := q8.a 18 rfl
    rw [decide_eq_false hk] at q8x
    go_upto_region 3 with fail
    refine wp_cond_true (ev q8x rfl) ?_
    go_upto_region 3 with fail
    refine wp_region_lit ?_
    refine q8.t (.int .i64 (kchk l)) (ex_move rfl (q8.e (j := 6) rfl)) fun _ q9 => ?_;clear q8
    refine q9.t (.int .i64 0) (ex_assign rfl rfl) fun _ q10 => ?_;clear q9
    refine q10.t (.int .i64 (kchk l)) (ex_assign rfl (q10.e (j := 19) rfl)) fun _ q11 => ?_;clear q10
    refine wpList_nil ?_
    go_wp2
    exact bodyPost_ret (results2_18 rfl (q11.a 4 rfl) (q11.a 5 rfl)) rfl ⟨by rw [hE], b1⟩
theorem size_setCells18 (q : Nat) : ∀ (vs : List Value) (o : Nat) (w : World), (w.setCells q o vs).heap.size = w.heap.size
  | [], o, w => rfl
  | v :: r, o, w => by
    rw [World.setCells, size_setCells18 q r]
    simp [World.setCell]
def kW : Kl := ⟨0, 1, ⟨1, 7, ⟨#[97]⟩⟩, 0, 5, (1, 7, ⟨#[97]⟩)⟩
def kR : Kl := ⟨1, 1, ⟨3, 7, ⟨#[]⟩⟩, 2, 3, (5, 7, ⟨#[]⟩)⟩
def kR2 : Kl := ⟨1, 1, ⟨3, 7, ⟨#[]⟩⟩, 6, 7, (5, 7, ⟨#[]⟩)⟩
theorem fitW : kW.fits := ⟨by decide, by decide, ⟨by decide, by decide, by decide⟩, by decide, by decide, by decide⟩
theorem fitR : kR.fits := ⟨by decide, by decide, ⟨by decide, by decide, by decide⟩, by decide, by decide, by decide⟩
theorem fitR2 : kR2.fits := ⟨by decide, by decide, ⟨by decide, by decide, by decide⟩, by decide, by decide, by decide⟩
theorem wk1 : srE [kW, kR] = 0 := by decide
theorem wk2 : srA [kW, kR] = some [1, 0] := by decide
theorem wk3 : hld [kW, kR] [0, 1] = (1, 0) := by decide
theorem wk4 : srE [kW, kR2] = 0 := by decide
theorem wk5 : srA [kW, kR2] = none := by decide
theorem bdo1 (w : World) : (Instr.build 41 #[(0, .int .i64 1), (1, .int .i64 7), (2, .string ⟨#[97]⟩)]).run Try.prog w = .ok (.agg #[.int .i64 1, .int .i64 7, .string ⟨#[97]⟩]) w := by go_simp
theorem bdr1 (w : World) : (Instr.build 43 #[(0, .int .i64 1), (1, .int .i64 7), (2, .string ⟨#[97]⟩)]).run Try.prog w = .ok (.agg #[.int .i64 1, .int .i64 7, .string ⟨#[97]⟩]) w := by go_simp
theorem bdo2 (w : World) : (Instr.build 41 #[(0, .int .i64 3), (1, .int .i64 7)]).run Try.prog w = .ok (.agg #[.int .i64 3, .int .i64 7, .string ⟨#[]⟩]) w := by go_simp
theorem bdr2 (w : World) : (Instr.build 43 #[(0, .int .i64 5), (1, .int .i64 7)]).run Try.prog w = .ok (.agg #[.int .i64 5, .int .i64 7, .string ⟨#[]⟩]) w := by go_simp
theorem bdk (c n k s b e r1 r2 : Int) (v r3 : ByteArray) (w : World) : (Instr.build 45 #[(0, .int .i64 c), (1, .int .i64 n), (2, .agg #[.int .i64 k, .int .i64 s, .string v]), (3, .int .i64 b), (4, .int .i64 e), (5, .agg #[.int .i64 r1, .int .i64 r2, .string r3])]).run Try.prog w = .ok (⟨c, n, ⟨k, s, v⟩, b, e, (r1, r2, r3)⟩ : Kl).val w := by
  unfold Kl.val
  go_simp
theorem bs2K (x y : Kl) (w : World) : (Instr.buildSlice 24 2 #[(0, x.val), (1, y.val)]).run Try.prog w = .ok (.slice (some ⟨w.heap.size, 0, none⟩) 2 2) (w.alloc (.cells (fl yK [x, y]).toArray 45)) := by
  unfold Kl.val
  simp only [fl, yK, Kl.cs]
  go_simp
theorem bs2N (x y : Int) (w : World) : (Instr.buildSlice 35 2 #[(0, .int .i64 x), (1, .int .i64 y)]).run Try.prog w = .ok (.slice (some ⟨w.heap.size, 0, none⟩) 2 2) (w.alloc (.cells (fl yN [x, y]).toArray 3)) := by
  simp only [fl, yN]
  go_simp
theorem ex_bs2 {o : Oper} {ρ : Operand → Value} {s : TypeId} {x y : Operand} {X Y V : Value} {w w' : World} (ho : o.op = .buildSlice s 2 #[(0, x), (1, y)]) (hx : ρ x = X) (hy : ρ y = Y) (hr : (Instr.buildSlice s 2 #[(0, X), (1, Y)]).run Try.prog w = .ok V w') : (execOp ρ o).run Try.prog w = .ok (.value V) w' := by
  unfold execOp
  simp only [ho, List.map_toArray, List.map_cons, List.map_nil, hx, hy, Sem.run_bind, hr, Result.andThen_ok]
  rfl
theorem stI18 {w : World} {q j : Nat} {u : Value} {b : Int} (h : w.cell? ⟨q, j, none⟩ = some u) (hf : w.frozen? ⟨q, j, none⟩ = false) : (Instr.storeAt 3 (.pointer (some ⟨q, j, none⟩)) (.int .i64 b)).run Try.prog w = .ok () (w.setCell ⟨q, j, none⟩ (.int .i64 b)) := by go_simp
theorem faK4 (q : Nat) (w : World) : (Instr.fieldAt 45 (.pointer (some ⟨q, 0, none⟩)) 4).run Try.prog w = .ok (.pointer (some ⟨q, 6, none⟩)) w := by go_simp
theorem eqlE18 (x y : Operand) (a b : Int) (w : World) : (do eqGuard .eql 25 x y (.int .i64 a) (.int .i64 b); binOp .eql 25 (.int .i64 a) (.int .i64 b) : Sem Value).run Try.prog w = .ok (.bool (decide (a = b))) w := by
  go_simp
  by_cases h : a = b <;> simp [h]
theorem wantT18 {ops : Array Oper} {T : Array Value} {o : Oper} {k j : Nat} (hg : o.guard = some (k, true)) (hk : (ops[k]?).bind (·.dst) = some j) (hs : T[j]? = some (gw true (.bool true))) : Region.wanted o (yielded ops T) = true := want_g hg hk hs
set_option maxHeartbeats 2000000 in
theorem works18_any (w : World) : Calls Try.prog 12 #[] w fun e w' => e = .returned (.bool true) ∧ Below w.heap.size w w' := by
  go_enter Try.func12, Try.ntmps12
  go_upto_region 0 with fail
  refine wp_region_lit ?_
  refine vl_gen (fun T => Rp T 81 []) (Rp.nil rfl) (fun Z0 q0 => ?_)
  refine q0.t (.bool false) (ex_assign rfl rfl) fun _ q1 => ?_;clear q0
  refine wpList_nil ?_
  go_upto_region 1 with fail
  refine wp_region_lit ?_
  refine q1.t (.agg #[.int .i64 1, .int .i64 7, .string ⟨#[97]⟩]) (ex_buildP18 rfl (by simp only [List.map_toArray, List.map_cons, List.map_nil, evc] <;> rfl) (bdo1 _)) fun _ q2 => ?_;clear q1
  refine q2.t (.agg #[.int .i64 1, .int .i64 7, .string ⟨#[97]⟩]) (ex_buildP18 rfl (by simp only [List.map_toArray, List.map_cons, List.map_nil, evc] <;> rfl) (bdr1 _)) fun _ q3 => ?_;clear q2
  refine q3.t (kW.val) (ex_buildP18 rfl (by simp only [List.map_toArray, List.map_cons, List.map_nil, evc, q3.e (j := 11) rfl, q3.e (j := 12) rfl] <;> rfl) (bdk 0 1 1 7 0 5 1 7 ⟨#[97]⟩ ⟨#[97]⟩ _)) fun _ q4 => ?_;clear q3
  obtain ⟨w1, hw1⟩ : ∃ y, y = w.alloc (.cells zK.cs.toArray 45) := ⟨_, rfl⟩
  refine vw (.pointer (some ⟨w.heap.size, 0, none⟩)) w1 (want_none rfl) (ex_al rfl (by rw [hw1]; exact alK _)) rfl q4.z (by decide) (q4.k fun _ q5 => ?_);clear q4
  have Bz : BB w1 w.heap.size 45 zK.cs := by rw [hw1]; exact BB.new _ _ _
  have bw1 : Below w.heap.size w w1 := by rw [hw1]; exact (Below.refl _ _).alloc (Nat.le_refl _) _
  have zw1 : w1.heap.size = w.heap.size + 1 := by rw [hw1]; simp
  clear hw1
  obtain ⟨w1b, hw1b⟩ : ∃ y, y = w1.setCells w.heap.size 0 kW.cs := ⟨_, rfl⟩
  refine vs w1b (want_none rfl) (ex_st rfl (q5.e (j := 1) rfl) (q5.e (j := 13) rfl) (by rw [hw1b]; exact Bz.stK (x := kW))) rfl ?_
  have BW : BB w1b w.heap.size 45 kW.cs := by rw [hw1b]; exact Bz.whole _ rfl
  have bw1b : Below w.heap.size w w1b := by rw [hw1b]; exact bw1.trans (bel_ge (upd18 _ _ _ _) bw1.size (Nat.le_refl _))
  have zw1b : w1b.heap.size = w.heap.size + 1 := by rw [hw1b]; have := (upd18 w.heap.size kW.cs 0 w1); rw [← zw1]; exact size_setCells18 _ _ _ _
  clear hw1b Bz bw1
  have q6 := ((Rp.nil q5.z).cons (q5.a 1 rfl))
  clear q5
  refine wpList_nil ?_
  go_upto_region 2 with fail
  refine wp_region_lit ?_
  refine q6.t (.agg #[.int .i64 3, .int .i64 7, .string ⟨#[]⟩]) (ex_buildP18 rfl (by simp only [List.map_toArray, List.map_cons, List.map_nil, evc] <;> rfl) (bdo2 _)) fun _ q7 => ?_;clear q6
  refine q7.t (.agg #[.int .i64 5, .int .i64 7, .string ⟨#[]⟩]) (ex_buildP18 rfl (by simp only [List.map_toArray, List.map_cons, List.map_nil, evc] <;> rfl) (bdr2 _)) fun _ q8 => ?_;clear q7
  refine q8.t (kR.val) (ex_buildP18 rfl (by simp only [List.map_toArray, List.map_cons, List.map_nil, evc, q8.e (j := 14) rfl, q8.e (j := 15) rfl] <;> rfl) (bdk 1 1 3 7 2 3 5 7 ⟨#[]⟩ ⟨#[]⟩ _)) fun _ q9 => ?_;clear q8
  obtain ⟨w2, hw2⟩ : ∃ y, y = w1b.alloc (.cells zK.cs.toArray 45) := ⟨_, rfl⟩
  refine vw (.pointer (some ⟨w1b.heap.size, 0, none⟩)) w2 (want_none rfl) (ex_al rfl (by rw [hw2]; exact alK _)) rfl q9.z (by decide) (q9.k fun _ q10 => ?_);clear q9
  have Bz : BB w2 w1b.heap.size 45 zK.cs := by rw [hw2]; exact BB.new _ _ _
  have bw2 : Below w1b.heap.size w1b w2 := by rw [hw2]; exact (Below.refl _ _).alloc (Nat.le_refl _) _
  have zw2 : w2.heap.size = w1b.heap.size + 1 := by rw [hw2]; simp
  clear hw2
  obtain ⟨w2b, hw2b⟩ : ∃ y, y = w2.setCells w1b.heap.size 0 kR.cs := ⟨_, rfl⟩
  refine vs w2b (want_none rfl) (ex_st rfl (q10.e (j := 2) rfl) (q10.e (j := 16) rfl) (by rw [hw2b]; exact Bz.stK (x := kR))) rfl ?_
  have BR : BB w2b w1b.heap.size 45 kR.cs := by rw [hw2b]; exact Bz.whole _ rfl
  have bw2b : Below w1b.heap.size w1b w2b := by rw [hw2b]; exact bw2.trans (bel_ge (upd18 _ _ _ _) bw2.size (Nat.le_refl _))
  have zw2b : w2b.heap.size = w1b.heap.size + 1 := by rw [hw2b]; have := (upd18 w1b.heap.size kR.cs 0 w2); rw [← zw2]; exact size_setCells18 _ _ _ _
  clear hw2b Bz bw2
  replace BW := BW.later bw2b
  have c2 : Below w.heap.size w w2b := bw1b.trans (bw2b.mono (by omega))
  have q11 := (((Rp.nil q10.z).cons (q10.a 1 rfl)).cons (q10.a 2 rfl))
  clear q10
  refine wpList_nil ?_
  go_upto_region 3 with fail
  refine wp_region_lit ?_
  refine q11.t (kW.val) (ex_ld rfl (q11.e (j := 1) rfl) BW.ldK) fun _ q12 => ?_;clear q11
  refine q12.t (kR.val) (ex_ld rfl (q12.e (j := 2) rfl) BR.ldK) fun _ q13 => ?_;clear q12
  obtain ⟨x1, hx1⟩ : ∃ y, y = w2b.alloc (.cells (fl yK [kW, kR]).toArray 45) := ⟨_, rfl⟩
  refine vw (.slice (some ⟨w2b.heap.size, 0, none⟩) 2 2) x1 (want_none rfl) (ex_bs2 rfl (q13.e (j := 18) rfl) (q13.e (j := 19) rfl) (by rw [hx1]; exact bs2K _ _ _)) rfl q13.z (by decide) (q13.k fun _ q14 => ?_);clear q13
  have sx1 : SlY yK x1 (some ⟨w2b.heap.size, 0, none⟩) 2 2 [kW, kR] := by rw [hx1]; exact sl_lit kK w2b [kW, kR] 45 (by unfold maxLen; decide)
  have bx1 : Below w2b.heap.size w2b x1 := by rw [hx1]; exact (Below.refl _ _).alloc (Nat.le_refl _) _
  have zx1 := bx1.size
  clear hx1
  refine vcallP (want_none rfl) (ex_call rfl (by simp only [List.map_toArray, List.map_cons, List.map_nil, (q14.e (j := 20) rfl), evc] <;> rfl) rfl) (search18_any [kW, kR] _ 2 x1 sx1 (fun x hx => by rcases List.mem_cons.1 hx with rfl | hx; exact fitW; rcases List.mem_cons.1 hx with rfl | hx; exact fitR; cases hx)) rfl q14.z (by decide) ?_
  rintro e x2 ⟨v3, rfl, o3, bx2⟩
  refine ⟨_, rfl, q14.k fun _ q15 => ?_⟩;clear q14
  rw [wk2] at o3
  have zx2 := bx2.size
  refine q15.t (.tuple #[v3, .bool (srA [kW, kR]).isSome, .int .i64 (srE [kW, kR])]) (ex_move rfl (q15.e (j := 21) rfl)) fun _ q16 => ?_;clear q15
  refine q16.t (v3) (ex_ext18 rfl (q16.e (j := 17) rfl) rfl) fun _ q17 => ?_;clear q16
  refine q17.t (.bool true) (ex_ext18 rfl (q17.e (j := 17) rfl) (by rw [wk2]; rfl)) fun _ q18 => ?_;clear q17
  refine q18.t (.int .i64 0) (ex_ext18 rfl (q18.e (j := 17) rfl) (by rw [wk1]; rfl)) fun _ q19 => ?_;clear q18
  refine q19.t (v3) (ex_assign rfl (q19.e (j := 22) rfl)) fun _ q20 => ?_;clear q19
  refine q20.t (.bool true) (ex_assign rfl (q20.e (j := 23) rfl)) fun _ q21 => ?_;clear q20
  refine q21.t (.int .i64 0) (ex_assign rfl (q21.e (j := 24) rfl)) fun _ q22 => ?_;clear q21
  have c12 : Below w2b.heap.size w2b x2 := bx1.trans (bx2.mono (by omega))
  replace BW := BW.later c12
  replace BR := BR.later c12
  have q23 := ((((((Rp.nil q22.z).cons (q22.a 1 rfl)).cons (q22.a 2 rfl)).cons (q22.a 3 rfl)).cons (q22.a 4 rfl)).cons (q22.a 5 rfl))
  clear q22
  refine wpList_nil ?_
  go_upto_region 4 with fail
  refine wp_region_lit ?_
  refine q23.t (kW.val) (ex_ld rfl (q23.e (j := 1) rfl) BW.ldK) fun _ q24 => ?_;clear q23
  refine q24.t (kR.val) (ex_ld rfl (q24.e (j := 2) rfl) BR.ldK) fun _ q25 => ?_;clear q24
  obtain ⟨x3, hx3⟩ : ∃ y, y = x2.alloc (.cells (fl yK [kW, kR]).toArray 45) := ⟨_, rfl⟩
  refine vw (.slice (some ⟨x2.heap.size, 0, none⟩) 2 2) x3 (want_none rfl) (ex_bs2 rfl (q25.e (j := 26) rfl) (q25.e (j := 27) rfl) (by rw [hx3]; exact bs2K _ _ _)) rfl q25.z (by decide) (q25.k fun _ q26 => ?_);clear q25
  have sx3 : SlY yK x3 (some ⟨x2.heap.size, 0, none⟩) 2 2 [kW, kR] := by rw [hx3]; exact sl_lit kK x2 [kW, kR] 45 (by unfold maxLen; decide)
  have bx3 : Below x2.heap.size x2 x3 := by rw [hx3]; exact (Below.refl _ _).alloc (Nat.le_refl _) _
  have zx3 := bx3.size
  clear hx3
  obtain ⟨x4, hx4⟩ : ∃ y, y = x3.alloc (.cells (fl yN [0, 1]).toArray 3) := ⟨_, rfl⟩
  refine vw (.slice (some ⟨x3.heap.size, 0, none⟩) 2 2) x4 (want_none rfl) (ex_bs2 rfl rfl rfl (by rw [hx4]; exact bs2N 0 1 _)) rfl q26.z (by decide) (q26.k fun _ q27 => ?_);clear q26
  have sx4 : SlY yN x4 (some ⟨x3.heap.size, 0, none⟩) 2 2 [0, 1] := by rw [hx4]; exact sl_lit kN x3 [0, 1] 3 (by unfold maxLen; decide)
  have bx4 : Below x3.heap.size x3 x4 := by rw [hx4]; exact (Below.refl _ _).alloc (Nat.le_refl _) _
  have zx4 := bx4.size
  clear hx4
  refine vcallP (want_none rfl) (ex_call rfl (by simp only [List.map_toArray, List.map_cons, List.map_nil, (q27.e (j := 28) rfl), (q27.e (j := 29) rfl), evc] <;> rfl) rfl) (holds18_any [kW, kR] _ 2 [0, 1] _ 2 x4 (sx3.later bx4) sx4 (fun x hx => by rcases List.mem_cons.1 hx with rfl | hx; exact fitW; rcases List.mem_cons.1 hx with rfl | hx; exact fitR; cases hx) (by decide) (by decide)) rfl q27.z (by decide) ?_
  rintro e x5 ⟨rfl, bx5⟩
  refine ⟨_, rfl, q27.k fun _ q28 => ?_⟩;clear q27
  have zx5 := bx5.size
  refine q28.t (.tuple #[.int .i64 (hld [kW, kR] [0, 1]).1, .int .i64 (hld [kW, kR] [0, 1]).2]) (ex_move rfl (q28.e (j := 30) rfl)) fun _ q29 => ?_;clear q28
  refine q29.t (.int .i64 1) (ex_ext18 rfl (q29.e (j := 25) rfl) (by rw [wk3]; rfl)) fun _ q30 => ?_;clear q29
  refine q30.t (.int .i64 0) (ex_ext18 rfl (q30.e (j := 25) rfl) (by rw [wk3]; rfl)) fun _ q31 => ?_;clear q30
  refine q31.t (.int .i64 1) (ex_assign rfl (q31.e (j := 31) rfl)) fun _ q32 => ?_;clear q31
  refine q32.t (.int .i64 0) (ex_assign rfl (q32.e (j := 32) rfl)) fun _ q33 => ?_;clear q32
  have c25 : Below x2.heap.size x2 x5 := bx3.trans ((bx4.trans (bx5.mono (by omega))).mono (by omega))
  replace BW := BW.later c25
  replace BR := BR.later c25
  replace o3 := o3.grow c25
  have q34 := ((((((((Rp.nil q33.z).cons (q33.a 1 rfl)).cons (q33.a 2 rfl)).cons (q33.a 3 rfl)).cons (q33.a 4 rfl)).cons (q33.a 5 rfl)).cons (q33.a 6 rfl)).cons (q33.a 7 rfl))
  clear q33
  refine wpList_nil ?_
  go_upto_region 5 with fail
  refine wp_region_lit ?_
  refine q34.t (.pointer (some ⟨w1b.heap.size, 5, none⟩)) (ex_fa rfl (q34.e (j := 2) rfl) (faK3 _ _)) fun _ q35 => ?_;clear q34
  obtain ⟨x6, hx6⟩ : ∃ y, y = x5.setCell ⟨w1b.heap.size, 5, none⟩ (.int .i64 6) := ⟨_, rfl⟩
  refine vs x6 (want_none rfl) (ex_st rfl (q35.e (j := 33) rfl) rfl (by rw [hx6]; exact stI18 ((BR.cell 5).trans rfl) (BR.free 5))) rfl ?_
  have u6 : Upd (fun k => k = w1b.heap.size) x5 x6 := by rw [hx6]; exact (Upd.refl (fun k => k = w1b.heap.size) _).setCell (p := ⟨w1b.heap.size, 5, none⟩) (.inl rfl) _
  have BR6 := BR.set1 5 (.int .i64 6)
  rw [← hx6] at BR6
  clear hx6
  replace BW := BW.upd u6 (by omega)
  refine wpList_nil ?_
  go_upto_region 6 with fail
  refine wp_region_lit ?_
  refine q35.t (.pointer (some ⟨w1b.heap.size, 6, none⟩)) (ex_fa rfl (q35.e (j := 2) rfl) (faK4 _ _)) fun _ q36 => ?_;clear q35
  obtain ⟨x7, hx7⟩ : ∃ y, y = x6.setCell ⟨w1b.heap.size, 6, none⟩ (.int .i64 7) := ⟨_, rfl⟩
  refine vs x7 (want_none rfl) (ex_st rfl (q36.e (j := 34) rfl) rfl (by rw [hx7]; exact stI18 ((BR6.cell 6).trans rfl) (BR6.free 6))) rfl ?_
  have u7 : Upd (fun k => k = w1b.heap.size) x6 x7 := by rw [hx7]; exact (Upd.refl (fun k => k = w1b.heap.size) _).setCell (p := ⟨w1b.heap.size, 6, none⟩) (.inl rfl) _
  have BR7 := BR6.set1 6 (.int .i64 7)
  rw [← hx7] at BR7
  clear hx7 BR BR6
  have BR : BB x7 w1b.heap.size 45 kR2.cs := BR7
  replace BW := BW.upd u7 (by omega)
  have zx6 := u6.size
  have zx7 := u7.size
  have u67 := u6.trans u7
  have o7 : OwnY yN x1.heap.size x7 v3 (ints [1, 0]) := o3.upd1 u67 (fun g hg e => by have := (o3.blk g hg).1; omega)
  have c7 : Below w.heap.size w x7 := (c2.trans ((c12.trans (c25.mono (by omega))).mono (by omega))).trans (u67.below (by omega) (fun k hk => by omega))
  refine wpList_nil ?_
  go_upto_region 7 with fail
  refine wp_region_lit ?_
  refine q36.t (kW.val) (ex_ld rfl (q36.e (j := 1) rfl) BW.ldK) fun _ q37 => ?_;clear q36
  refine q37.t (kR2.val) (ex_ld rfl (q37.e (j := 2) rfl) BR.ldK) fun _ q38 => ?_;clear q37
  obtain ⟨x8, hx8⟩ : ∃ y, y = x7.alloc (.cells (fl yK [kW, kR2]).toArray 45) := ⟨_, rfl⟩
  refine vw (.slice (some ⟨x7.heap.size, 0, none⟩) 2 2) x8 (want_none rfl) (ex_bs2 rfl (q38.e (j := 36) rfl) (q38.e (j := 37) rfl) (by rw [hx8]; exact bs2K _ _ _)) rfl q38.z (by decide) (q38.k fun _ q39 => ?_);clear q38
  have sx8 : SlY yK x8 (some ⟨x7.heap.size, 0, none⟩) 2 2 [kW, kR2] := by rw [hx8]; exact sl_lit kK x7 [kW, kR2] 45 (by unfold maxLen; decide)
  have bx8 : Below x7.heap.size x7 x8 := by rw [hx8]; exact (Below.refl _ _).alloc (Nat.le_refl _) _
  have zx8 := bx8.size
  clear hx8
  refine vcallP (want_none rfl) (ex_call rfl (by simp only [List.map_toArray, List.map_cons, List.map_nil, (q39.e (j := 38) rfl), evc] <;> rfl) rfl) (search18_any [kW, kR2] _ 2 x8 sx8 (fun x hx => by rcases List.mem_cons.1 hx with rfl | hx; exact fitW; rcases List.mem_cons.1 hx with rfl | hx; exact fitR2; cases hx)) rfl q39.z (by decide) ?_
  rintro e x9 ⟨v8, rfl, o8, bx9⟩
  refine ⟨_, rfl, q39.k fun _ q40 => ?_⟩;clear q39
  have zx9 := bx9.size
  refine q40.t (.tuple #[v8, .bool (srA [kW, kR2]).isSome, .int .i64 (srE [kW, kR2])]) (ex_move rfl (q40.e (j := 39) rfl)) fun _ q41 => ?_;clear q40
  refine q41.t (v8) (ex_ext18 rfl (q41.e (j := 35) rfl) rfl) fun _ q42 => ?_;clear q41
  refine q42.t (.bool false) (ex_ext18 rfl (q42.e (j := 35) rfl) (by rw [wk5]; rfl)) fun _ q43 => ?_;clear q42
  refine q43.t (.int .i64 0) (ex_ext18 rfl (q43.e (j := 35) rfl) (by rw [wk4]; rfl)) fun _ q44 => ?_;clear q43
  refine q44.t (v8) (ex_assign rfl (q44.e (j := 40) rfl)) fun _ q45 => ?_;clear q44
  refine q45.t (.bool false) (ex_assign rfl (q45.e (j := 41) rfl)) fun _ q46 => ?_;clear q45
  refine q46.t (.int .i64 0) (ex_assign rfl (q46.e (j := 42) rfl)) fun _ q47 => ?_;clear q46
  have c79 : Below x7.heap.size x7 x9 := bx8.trans (bx9.mono (by omega))
  have o9 := o7.grow c79
  obtain ⟨a9, cc9, hv3, _, _, hn9, ha9⟩ := o9.form
  obtain ⟨g9, rfl⟩ : ∃ g9, a9 = some ⟨g9, 0, none⟩ := by
    cases a9 with
    | none => have := (hn9 rfl).1; simp [ints] at this
    | some z => obtain ⟨g, e, _⟩ := ha9 z rfl; exact ⟨g, by rw [e]⟩
  have hv32 : v3 = .slice (some ⟨g9, 0, none⟩) 2 cc9 := hv3
  clear hv3 hn9 ha9
  rw [hv32] at o9
  have d0 : x9.cell? ⟨g9, 0, none⟩ = some (.int .i64 1) := o9.nm rfl
  have d1 : x9.cell? ⟨g9, 1, none⟩ = some (.int .i64 0) := o9.nm rfl
  have q48 := ((((((((Rp.nil q47.z).cons (q47.a 3 rfl)).cons (q47.a 4 rfl)).cons (q47.a 5 rfl)).cons (q47.a 6 rfl)).cons (q47.a 7 rfl)).cons (q47.a 9 rfl)).cons (q47.a 10 rfl))
  clear q47
  refine wpList_nil ?_
  go_upto_region 8 with fail
  refine wp_region_lit ?_
  refine q48.t (.int .i64 0) (ex_move rfl (q48.e (j := 5) rfl)) fun _ q49 => ?_;clear q48
  refine q49.t (.bool true) (ex_bin rfl (q49.e (j := 43) rfl) rfl (eqlE18 _ _ 0 0 _)) fun _ q50 => ?_;clear q49
  refine q50.t (.bool true) (ex_move rfl (q50.e (j := 44) rfl)) fun _ q51 => ?_;clear q50
  refine vl (true) (.bool true) (wantT18 rfl rfl (q51.a 45 rfl)) (fun hc => ex_move rfl (q51.e (j := 4) rfl)) rfl q51.z (by decide) (q51.k fun _ q52 => ?_);clear q51
  refine q52.t (.bool true) (ex_and (c := true) (b := true) (z := true) rfl (q52.a 45 rfl) (q52.a 46 rfl) rfl) fun _ q53 => ?_;clear q52
  refine q53.t (.bool true) (ex_move rfl (q53.e (j := 47) rfl)) fun _ q54 => ?_;clear q53
  refine vl (true) (v3) (wantT18 rfl rfl (q54.a 48 rfl)) (fun hc => ex_move rfl (q54.e (j := 3) rfl)) rfl q54.z (by decide) (q54.k fun _ q55 => ?_);clear q54
  refine vl (true) (.int .i64 2) (wantT18 rfl rfl (q55.a 48 rfl)) (fun hc => (ex_lenN18 (n := 2) (a := some ⟨g9, 0, none⟩) (k := cc9) rfl rfl ((q55.e (j := 49) rfl).trans hv32))) rfl q55.z (by decide) (q55.k fun _ q56 => ?_);clear q55
  refine vl (true) (.bool true) (wantT18 rfl rfl (q56.a 48 rfl)) (fun hc => ex_bin rfl (q56.e (j := 50) rfl) rfl (eqlC _ _ 2 2 _)) rfl q56.z (by decide) (q56.k fun _ q57 => ?_);clear q56
  refine q57.t (.bool true) (ex_and (c := true) (b := true) (z := true) rfl (q57.a 48 rfl) (q57.a 51 rfl) rfl) fun _ q58 => ?_;clear q57
  refine q58.t (.bool true) (ex_move rfl (q58.e (j := 52) rfl)) fun _ q59 => ?_;clear q58
  refine vl (true) (v3) (wantT18 rfl rfl (q59.a 53 rfl)) (fun hc => ex_move rfl (q59.e (j := 3) rfl)) rfl q59.z (by decide) (q59.k fun _ q60 => ?_);clear q59
  refine vl (true) (.pointer (some ⟨g9, 0 + 0, none⟩)) (wantT18 rfl rfl (q60.a 53 rfl)) (fun hc => ex_ix rfl ((q60.e (j := 54) rfl).trans hv32) rfl (ixN18 g9 0 2 cc9 0 (by decide) _)) rfl q60.z (by decide) (q60.k fun _ q61 => ?_);clear q60
  refine vl (true) (.int .i64 1) (wantT18 rfl rfl (q61.a 53 rfl)) (fun hc => ex_ld rfl (q61.e (j := 55) rfl) (ldI18 d0)) rfl q61.z (by decide) (q61.k fun _ q62 => ?_);clear q61
  refine vl (true) (.bool true) (wantT18 rfl rfl (q62.a 53 rfl)) (fun hc => ex_bin rfl (q62.e (j := 56) rfl) rfl (eqlC _ _ 1 1 _)) rfl q62.z (by decide) (q62.k fun _ q63 => ?_);clear q62
  refine q63.t (.bool true) (ex_and (c := true) (b := true) (z := true) rfl (q63.a 53 rfl) (q63.a 57 rfl) rfl) fun _ q64 => ?_;clear q63
  refine q64.t (.bool true) (ex_move rfl (q64.e (j := 58) rfl)) fun _ q65 => ?_;clear q64
  refine vl (true) (v3) (wantT18 rfl rfl (q65.a 59 rfl)) (fun hc => ex_move rfl (q65.e (j := 3) rfl)) rfl q65.z (by decide) (q65.k fun _ q66 => ?_);clear q65
  refine vl (true) (.pointer (some ⟨g9, 0 + 1, none⟩)) (wantT18 rfl rfl (q66.a 59 rfl)) (fun hc => ex_ix rfl ((q66.e (j := 60) rfl).trans hv32) rfl (ixN18 g9 0 2 cc9 1 (by decide) _)) rfl q66.z (by decide) (q66.k fun _ q67 => ?_);clear q66
  refine vl (true) (.int .i64 0) (wantT18 rfl rfl (q67.a 59 rfl)) (fun hc => ex_ld rfl (q67.e (j := 61) rfl) (ldI18 d1)) rfl q67.z (by decide) (q67.k fun _ q68 => ?_);clear q67
  refine vl (true) (.bool true) (wantT18 rfl rfl (q68.a 59 rfl)) (fun hc => ex_bin rfl (q68.e (j := 62) rfl) rfl (eqlC _ _ 0 0 _)) rfl q68.z (by decide) (q68.k fun _ q69 => ?_);clear q68
  refine q69.t (.bool true) (ex_and (c := true) (b := true) (z := true) rfl (q69.a 59 rfl) (q69.a 63 rfl) rfl) fun _ q70 => ?_;clear q69
  refine q70.t (.bool true) (ex_move rfl (q70.e (j := 64) rfl)) fun _ q71 => ?_;clear q70
  refine vl (true) (.int .i64 0) (wantT18 rfl rfl (q71.a 65 rfl)) (fun hc => ex_move rfl (q71.e (j := 7) rfl)) rfl q71.z (by decide) (q71.k fun _ q72 => ?_);clear q71
  refine vl (true) (.bool true) (wantT18 rfl rfl (q72.a 65 rfl)) (fun hc => ex_bin rfl (q72.e (j := 66) rfl) rfl (eqlE18 _ _ 0 0 _)) rfl q72.z (by decide) (q72.k fun _ q73 => ?_);clear q72
  refine q73.t (.bool true) (ex_and (c := true) (b := true) (z := true) rfl (q73.a 65 rfl) (q73.a 67 rfl) rfl) fun _ q74 => ?_;clear q73
  refine q74.t (.bool true) (ex_move rfl (q74.e (j := 68) rfl)) fun _ q75 => ?_;clear q74
  refine vl (true) (.int .i64 1) (wantT18 rfl rfl (q75.a 69 rfl)) (fun hc => ex_move rfl (q75.e (j := 6) rfl)) rfl q75.z (by decide) (q75.k fun _ q76 => ?_);clear q75
  refine vl (true) (.bool true) (wantT18 rfl rfl (q76.a 69 rfl)) (fun hc => ex_bin rfl (q76.e (j := 70) rfl) rfl (eqlC _ _ 1 1 _)) rfl q76.z (by decide) (q76.k fun _ q77 => ?_);clear q76
  refine q77.t (.bool true) (ex_and (c := true) (b := true) (z := true) rfl (q77.a 69 rfl) (q77.a 71 rfl) rfl) fun _ q78 => ?_;clear q77
  refine q78.t (.bool true) (ex_move rfl (q78.e (j := 72) rfl)) fun _ q79 => ?_;clear q78
  refine vl (true) (.int .i64 0) (wantT18 rfl rfl (q79.a 73 rfl)) (fun hc => ex_move rfl (q79.e (j := 10) rfl)) rfl q79.z (by decide) (q79.k fun _ q80 => ?_);clear q79
  refine vl (true) (.bool true) (wantT18 rfl rfl (q80.a 73 rfl)) (fun hc => ex_bin rfl (q80.e (j := 74) rfl) rfl (eqlE18 _ _ 0 0 _)) rfl q80.z (by decide) (q80.k fun _ q81 => ?_);clear q80
  refine q81.t (.bool true) (ex_and (c := true) (b := true) (z := true) rfl (q81.a 73 rfl) (q81.a 75 rfl) rfl) fun _ q82 => ?_;clear q81
  refine q82.t (.bool true) (ex_move rfl (q82.e (j := 76) rfl)) fun _ q83 => ?_;clear q82
  refine vl (true) (.bool false) (wantT18 rfl rfl (q83.a 77 rfl)) (fun hc => ex_move rfl (q83.e (j := 9) rfl)) rfl q83.z (by decide) (q83.k fun _ q84 => ?_);clear q83
  refine vl (true) (.bool true) (wantT18 rfl rfl (q84.a 77 rfl)) (fun hc => ex_not rfl (q84.e (j := 78) rfl)) rfl q84.z (by decide) (q84.k fun _ q85 => ?_);clear q84
  refine q85.t (.bool true) (ex_and (c := true) (b := true) (z := true) rfl (q85.a 77 rfl) (q85.a 79 rfl) rfl) fun _ q86 => ?_;clear q85
  refine q86.t (.bool true) (ex_assign rfl (q86.e (j := 80) rfl)) fun _ q87 => ?_;clear q86
  refine wpList_nil ?_
  go_wp2
  refine bodyPost_ret (results_tmp rfl _ _ _) rfl ⟨?_, c7.trans (c79.mono (by have := c7.size; omega))⟩
  rw [getD_of (q87.a 0 rfl)]
  rfl
def er18 (c n k s : Int) (v : ByteArray) : Int := if c < 0 ∨ 16 ≤ c then 62 else if n < 1 then 63 else ck k s v
theorem er18_ask (c n k s : Int) (v : ByteArray) : decide (er18 c n k s v = 0) = askB c n ⟨k, s, v⟩ := by
  unfold er18 askB
  by_cases h1 : c < 0
  · have : ¬ 0 ≤ c := by omega
    simp [h1, this]
  · by_cases h2 : 16 ≤ c
    · have h3 : ¬ c < 16 := by omega
      simp [h2, h3]
    · by_cases h3 : n < 1
      · have h4 : ¬ 1 ≤ n := by omega
        simp [h1, h2, h3, h4]
      · have h4 : 1 ≤ n := by omega
        have h5 : 0 ≤ c := by omega
        have h6 : c < 16 := by omega
        simp [h1, h2, h3, h4, h5, h6]
theorem refEntry18 (c n k s : Int) (v : ByteArray) (hf : (⟨k, s, v⟩ : Opn).fits) (w : World) : Calls Try.prog 28 #[.agg #[.int .i64 c, .int .i64 n, .int .i64 k, .int .i64 s, .string v]] w fun e w' => e = .returned (.int .i64 (er18 c n k s v)) ∧ Below w.heap.size w w' := by
  have cc := fun W => refcheck k s v hf W
  have bA := (Below.refl w.heap.size w).alloc (Nat.le_refl _) (.cells #[.int .i64 c, .int .i64 n, .int .i64 k, .int .i64 s, .string v] 76)
  by_cases h1 : c < 0
  · have hE : Hid (er18 c n k s v = 62) := by show _ = _; simp [er18, h1]
    have d1 : decide (c < 0) = true := by simpa using h1
    go_enter Try.func28, Try.ntmps28
    go_wp2
    go_ret
    exact ⟨ret18 hE.out.symm, bA⟩
  · by_cases h2 : 16 ≤ c
    · have hE : Hid (er18 c n k s v = 62) := by show _ = _; simp [er18, h2]
      go_enter Try.func28, Try.ntmps28
      go_wp2
      go_ret
      exact ⟨ret18 hE.out.symm, bA⟩
    · by_cases h3 : n < 1
      · have hE : Hid (er18 c n k s v = 63) := by show _ = _; simp [er18, h1, h2, h3]
        go_enter Try.func28, Try.ntmps28
        go_wp2
        go_ret
        exact ⟨ret18 hE.out.symm, bA⟩
      · have hE : Hid (er18 c n k s v = ck k s v) := by show _ = _; simp [er18, h1, h2, h3]
        generalize ck k s v = z at *
        go_enter Try.func28, Try.ntmps28
        go_wp2_with (go_at_call 17; refine (cc _).mono ?_; rintro e w2 ⟨rfl, b2⟩)
        go_ret
        exact ⟨ret18 hE.out.symm, bA.trans (b2.mono (by simp))⟩
theorem neqSelf (x : Kl) (w : World) : (binOp .neq 45 x.val x.val).run Try.prog w = .ok (.bool false) w := by
  unfold Kl.val
  go_simp
theorem neqK18 (a b : Operand) (x : Kl) (w : World) : (do eqGuard .neq 45 a b x.val x.val; binOp .neq 45 x.val x.val : Sem Value).run Try.prog w = .ok (.bool false) w := by
  rw [Sem.run_bind]
  have e : (eqGuard .neq 45 a b x.val x.val).run Try.prog w = .ok () w := by unfold Kl.val; go_simp
  rw [e, Result.andThen_ok]
  exact neqSelf x w
theorem faK0o (q o : Nat) (w : World) : (Instr.fieldAt 45 (.pointer (some ⟨q, o, none⟩)) 0).run Try.prog w = .ok (.pointer (some ⟨q, o, none⟩)) w := by go_simp
theorem neqNn (x y : Operand) (n : Nat) (w : World) : (do eqGuard .neq 3 x y (.int .i64 (n : Int)) (.int .i64 (n : Int)); binOp .neq 3 (.int .i64 (n : Int)) (.int .i64 (n : Int)) : Sem Value).run Try.prog w = .ok (.bool false) w := by
  rw [neqC]
  simp
set_option maxHeartbeats 1000000 in
theorem same18 (L : List Kl) (a a2 : Option Addr) (c c2 : Nat) (w : World) (h : SlY yK w a L.length c L) (h2 : SlY yK w a2 L.length c2 L) (hbn : L.length ≤ 140737488355328) :
    Calls Try.prog 10 #[.slice a L.length c, .slice a2 L.length c2] w fun e w' => e = .returned (.bool true) ∧ Below w.heap.size w w' := by
  have hmx := h.max
  have hcp := h.cap
  unfold maxLen at hmx
  go_enter Try.func10, Try.ntmps10
  go_upto_region 0 with fail
  refine wp_region_lit ?_
  refine vl_gen (fun T => Rp T 26 [(1, gw true (.slice a2 L.length c2)), (0, gw true (.slice a L.length c))]) (((Rp.nil rfl).cons rfl).cons rfl) (fun Z0 q0 => ?_)
  refine q0.t (.bool false) (ex_assign rfl rfl) fun _ q1 => ?_;clear q0
  refine wpList_nil ?_
  go_upto_region 1 with fail
  refine wp_region_lit ?_
  refine q1.t (.slice a L.length c) (ex_move rfl (q1.e (j := 0) rfl)) fun _ q2 => ?_;clear q1
  refine q2.t (.int .i64 (L.length : Int)) (ex_len18 rfl rfl (q2.e (j := 6) rfl)) fun _ q3 => ?_;clear q2
  refine q3.t (.slice a2 L.length c2) (ex_move rfl (q3.e (j := 1) rfl)) fun _ q4 => ?_;clear q3
  refine q4.t (.int .i64 (L.length : Int)) (ex_len18 rfl rfl (q4.e (j := 8) rfl)) fun _ q5 => ?_;clear q4
  refine q5.t (.bool false) (ex_bin rfl (q5.e (j := 7) rfl) (q5.e (j := 9) rfl) (neqNn _ _ _ _)) fun _ q6 => ?_;clear q5
  refine wpList_nil ?_
  go_upto_region 3 with fail
  refine wp_cond_false (q6.e (j := 10) rfl) ?_
  go_upto_region 3 with fail
  refine wp_region_lit ?_
  refine q6.t (.int .i64 ((0 : Nat) : Int)) (ex_assign rfl rfl) fun _ q7 => ?_;clear q6
  have q8 := ((((Rp.nil q7.z).cons (q7.a 0 rfl)).cons (q7.a 1 rfl)).cons (q7.a 5 rfl))
  clear q7
  refine wpList_nil ?_
  go_upto_region 4 with fail
  refine v_loop 5 L.length (fun j T wr => Rp T 26 [(5, gw true (.int .i64 (j : Int))), (1, gw true (.slice a2 L.length c2)), (0, gw true (.slice a L.length c))] ∧ Hid (Below w.heap.size w wr)) (fun j T w h => h.1.a 5 rfl) ⟨q8, Below.refl _ _⟩ ?_
  clear q8
  intro j T wr hj hh
  obtain ⟨q100, HJ⟩ := hh
  have br := HJ.out
  clear HJ
  by_cases hit : j < L.length
  · obtain ⟨x, hx⟩ : ∃ x, L[j]? = some x := ⟨_, List.getElem?_eq_getElem hit⟩
    have s1 := h.on br (Nat.le_refl _)
    have s2 := h2.on br (Nat.le_refl _)
    go_upto_region 4 with fail
    refine wp_region_lit ?_
    refine q100.t (.int .i64 (j : Int)) (ex_move rfl (q100.e (j := 5) rfl)) fun _ q101 => ?_;clear q100
    refine q101.t (.slice a L.length c) (ex_move rfl (q101.e (j := 0) rfl)) fun _ q102 => ?_;clear q101
    refine q102.t (.int .i64 (L.length : Int)) (ex_len18 rfl rfl (q102.e (j := 12) rfl)) fun _ q103 => ?_;clear q102
    refine q103.t (.bool true) (ex_bin rfl (q103.e (j := 11) rfl) (q103.e (j := 13) rfl) (ltT _ _ hit _)) fun _ q104 => ?_;clear q103
    refine wpList_nil ?_
    go_upto_region 6 with fail
    refine wp_cond_true (q104.e (j := 14) rfl) ?_
    go_upto_region 6 with fail
    refine vq_start (C := fun v => Below wr.heap.size wr v) (by kernel_rfl) (by kernel_rfl) (Below.refl _ _).drew ?_
    obtain ⟨qa, oa, hqa, hqal, hla⟩ := s1.place (by rintro rfl; simp at hx)
    obtain ⟨qb, ob, hqb, hqbl, hlb⟩ := s2.place (by rintro rfl; simp at hx)
    refine q104.q (.slice a L.length c) (fun v hv => ex_move rfl (q104.e (j := 0) rfl)) fun _ q105 => ?_;clear q104
    refine q105.q (.int .i64 (j : Int)) (fun v hv => ex_move rfl (q105.e (j := 5) rfl)) fun _ q106 => ?_;clear q105
    refine q106.q (.pointer (some ⟨qa, oa + j * 10, none⟩)) (fun v hv => ex_ix rfl (q106.e (j := 17) rfl) (q106.e (j := 18) rfl) (by rw [hqa]; exact ixK qa oa L.length c j hit _)) fun _ q107 => ?_;clear q106
    refine q107.q (x.val) (fun v hv => ex_ld rfl (q107.e (j := 19) rfl) (ldEl (hla.upd (S := fun _ => False) (Upd.of_below hv) hqal id) hx)) fun _ q108 => ?_;clear q107
    refine q108.q (.slice a2 L.length c2) (fun v hv => ex_move rfl (q108.e (j := 1) rfl)) fun _ q109 => ?_;clear q108
    refine q109.q (.int .i64 (j : Int)) (fun v hv => ex_move rfl (q109.e (j := 5) rfl)) fun _ q110 => ?_;clear q109
    refine q110.q (.pointer (some ⟨qb, ob + j * 10, none⟩)) (fun v hv => ex_ix rfl (q110.e (j := 21) rfl) (q110.e (j := 22) rfl) (by rw [hqb]; exact ixK qb ob L.length c2 j hit _)) fun _ q111 => ?_;clear q110
    refine q111.q (x.val) (fun v hv => ex_ld rfl (q111.e (j := 23) rfl) (ldEl (hlb.upd (S := fun _ => False) (Upd.of_below hv) hqbl id) hx)) fun _ q112 => ?_;clear q111
    refine q112.q (.bool false) (fun v hv => ex_bin rfl (q112.e (j := 20) rfl) (q112.e (j := 24) rfl) (neqK18 _ _ x _)) fun _ q113 => ?_;clear q112
    refine vq_nil (fun r1 hr1 => ?_)
    have q114 := (((((Rp.nil q113.z).cons (q113.a 0 rfl)).cons (q113.a 1 rfl)).cons (q113.a 5 rfl)).cons (q113.a 25 rfl))
    clear q113
    go_upto_region 5 with fail
    refine wp_cond_false (q114.e (j := 25) rfl) ?_
    go_upto_region 5 with fail
    refine wp_region_lit ?_
    refine q114.t (.int .i64 (j : Int)) (ex_move rfl (q114.e (j := 5) rfl)) fun _ q115 => ?_;clear q114
    refine q115.t (.int .i64 ((j + 1 : Nat) : Int)) (ex_bin rfl (q115.e (j := 15) rfl) rfl (add1C _ _ j (by omega) _)) fun _ q116 => ?_;clear q115
    refine q116.t (.int .i64 ((j + 1 : Nat) : Int)) (ex_assign rfl (q116.e (j := 16) rfl)) fun _ q117 => ?_;clear q116
    have q118 := ((((Rp.nil q117.z).cons (q117.a 0 rfl)).cons (q117.a 1 rfl)).cons (q117.a 5 rfl))
    clear q117
    refine wpList_nil ?_
    exact ⟨_, rfl, hit, q118, br.trans (hr1.mono br.size)⟩
  · obtain rfl : j = L.length := by omega
    go_upto_region 4 with fail
    refine wp_region_lit ?_
    refine q100.t (.int .i64 (L.length : Int)) (ex_move rfl (q100.e (j := 5) rfl)) fun _ q101 => ?_;clear q100
    refine q101.t (.slice a L.length c) (ex_move rfl (q101.e (j := 0) rfl)) fun _ q102 => ?_;clear q101
    refine q102.t (.int .i64 (L.length : Int)) (ex_len18 rfl rfl (q102.e (j := 12) rfl)) fun _ q103 => ?_;clear q102
    refine q103.t (.bool false) (ex_bin rfl (q103.e (j := 11) rfl) (q103.e (j := 13) rfl) (ltF _ _ hit _)) fun _ q104 => ?_;clear q103
    refine wpList_nil ?_
    go_upto_region 8 with fail
    refine wp_cond_false (q104.e (j := 14) rfl) ?_
    go_upto_region 8 with fail
    refine wp_region_lit ?_
    refine q104.t (.bool true) (ex_assign rfl rfl) fun _ q105 => ?_;clear q104
    refine wpList_nil ?_
    go_wp2
    refine bodyPost_ret (results_tmp rfl _ _ _) rfl ⟨?_, br⟩
    rw [getD_of (q105.a 4 rfl)]
    rfl
end Go.Proofs.Yteamgkadhlbflaa
namespace Go.Proofs.Yteamgkadhlbflaa
open Go.ChangeShapes Go.WideShapes Go.ChangeAt Go.RowKit
open Classical
theorem opCells : Try.prog.cellsOf 41 = 3 := by kernel_rfl
theorem intCells : Try.prog.cellsOf 3 = 1 := by kernel_rfl
theorem strCells : Try.prog.cellsOf 9 = 1 := by kernel_rfl
theorem open_opc {H : Type} {enc : TypeId × Value → H} {W : World} {base : Nat} {sp : Nat → Bool} {held : Bool} {n : Nat} {cs : List Value} {x : DataW H × List MemPlace} (h : DataW.trod enc Try.prog W base sp held n 41 cs = some x) :
    ∃ p : Opn, p.fits ∧ cs = [.int .i64 p.k, .int .i64 p.s, .string p.v] := by
  obtain ⟨xs, k, hk, hxy, hlen, hxl, hf⟩ := DataW.trod_struct Try.underlying41 h
  rw [opCells] at hlen
  have hxl : xs.length = 3 := hxl
  match xs, hxl, cs, hlen with
  | [y0, y1, y2], _, [v0, v1, v2], _ =>
    have g0 := hf 0 _ rfl
    have g1 := hf 1 _ rfl
    have g2 := hf 2 _ rfl
    simp [intCells, strCells] at g0 g1 g2
    obtain ⟨K, hK, hx0, hw0⟩ := DataW.trod_int Try.underlying3 g0
    obtain ⟨N, hN, hx2, hw2⟩ := DataW.trod_int Try.underlying3 g1
    obtain ⟨t, hS, hx4, hw4⟩ := DataW.trod_string Try.underlying9 g2
    refine ⟨⟨K, N, t⟩, ⟨hw0, hw2, hw4⟩, ?_⟩
    rw [(List.cons_eq_cons.1 hK).1, (List.cons_eq_cons.1 hN).1, (List.cons_eq_cons.1 hS).1]
theorem rsCells18 : Try.prog.cellsOf 43 = 3 := by kernel_rfl
theorem open_rsc18 {H : Type} {enc : TypeId × Value → H} {W : World} {base : Nat} {sp : Nat → Bool} {held : Bool} {n : Nat} {cs : List Value} {x : DataW H × List MemPlace} (h : DataW.trod enc Try.prog W base sp held n 43 cs = some x) :
    ∃ r : Rs, r.2.2.size ≤ maxLen ∧ cs = [.int .i64 r.1, .int .i64 r.2.1, .string r.2.2] := by
  obtain ⟨xs, k, hk, hxy, hlen, hxl, hf⟩ := DataW.trod_struct Try.underlying43 h
  rw [rsCells18] at hlen
  have hxl : xs.length = 3 := hxl
  match xs, hxl, cs, hlen with
  | [y0, y1, y2], _, [v0, v1, v2], _ =>
    have g0 := hf 0 _ rfl
    have g1 := hf 1 _ rfl
    have g2 := hf 2 _ rfl
    simp [intCells, strCells] at g0 g1 g2
    obtain ⟨K, hK, hx0, hw0⟩ := DataW.trod_int Try.underlying3 g0
    obtain ⟨N, hN, hx2, hw2⟩ := DataW.trod_int Try.underlying3 g1
    obtain ⟨t, hS, hx4, hw4⟩ := DataW.trod_string Try.underlying9 g2
    refine ⟨(K, N, t), hw4, ?_⟩
    rw [(List.cons_eq_cons.1 hK).1, (List.cons_eq_cons.1 hN).1, (List.cons_eq_cons.1 hS).1]
end Go.Proofs.Yteamgkadhlbflaa
namespace Go.Proofs.Yteamgkadhlbflaa
open Go.RowKit Go.Maps
open Classical
theorem eqlSe (x y : Operand) (a : Int) (w : World) : (do eqGuard .eql 3 x y (.int .i64 a) (.int .i64 a); binOp .eql 3 (.int .i64 a) (.int .i64 a) : Sem Value).run Try.prog w = .ok (.bool true) w := by
  rw [eqlC]
  simp
end Go.Proofs.Yteamgkadhlbflaa
