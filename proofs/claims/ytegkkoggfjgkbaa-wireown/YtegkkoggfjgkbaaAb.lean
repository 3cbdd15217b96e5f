import Derived.Test.YtegkkoggfjgkbaaGAe
import Derived.Test.YtegkkoggfjgkbaaAo
namespace Go.Proofs.Ytegkkoggfjgkbaa
open Go.RowKit Go.Maps
open Classical
set_option linter.unusedVariables false
set_option linter.unusedSimpArgs false

theorem wp_region_quietBy {P : Program} {C : World → Prop} {id : Nat} {Q : Exit → Act → World → Prop} {a : Act} {w : World} {l : List Oper} (hm : P.follows .mixedOrders = true) (hB : Region.lexB .any l.toArray = true) (hC : C w.drew)
    (h : wpQuiet P l.toArray C (fun a' => ∀ w', C w' → Q .normal a' w') l a) : (Code.region id l.toArray true).wp P Q a w :=
  wp_region_quiet (C := C) hm hB hC (by simpa using h)
def zByB : Lay (SV Int) := yS Int 22 24
theorem kzByB : zByB.Ok := kS Try.underlying24 (by kernel_rfl)
theorem hTByB : yBy.T ≠ zByB.T := by decide
def mkByB (i t : Nat) : Int := ((i : Int) * 31 + (t : Int) * 7 + 5) % 256
theorem markBy_any (i t : Nat) (w : World) (hi : i ≤ 1000) (ht : t ≤ 140737488355328) : Calls Try.prog 53 #[.int .i64 (i : Int), .int .i64 (t : Int)] w fun e w' => e = .returned (byV (mkByB i t)) ∧ Below w.heap.size w w' := by
  have h1 : IntKind.i64.wrap ((i : Int) * 31) = (i : Int) * 31 := by rw [IntKind.wrap_i64]; omega
  have h2 : IntKind.i64.wrap ((t : Int) * 7) = (t : Int) * 7 := by rw [IntKind.wrap_i64]; omega
  have h3 : IntKind.i64.wrap ((i : Int) * 31 + (t : Int) * 7) = (i : Int) * 31 + (t : Int) * 7 := by rw [IntKind.wrap_i64]; omega
  have h4 : IntKind.i64.wrap ((i : Int) * 31 + (t : Int) * 7 + 5) = (i : Int) * 31 + (t : Int) * 7 + 5 := by rw [IntKind.wrap_i64]; omega
  go_enter Try.func53, Try.ntmps53
  go_wp2
  go_ret
  exact ⟨rfl, Below.refl _ _⟩
theorem OwnY.rwBy {B : Nat} {w : World} {g n c : Nat} {l : List Int} (h : OwnY yBy B w (.slice (some ⟨g, 0, none⟩) n c) l) {i : Nat} {x : Int} (hx : l[i]? = some x) : w.cell? ⟨g, i, none⟩ = some (.int .u8 x) :=
  by have := h.cell kBy i x hx 0 _ rfl; rw [show i * yBy.k + 0 = i from Nat.mul_one i] at this; exact this
theorem OwnY.putBy {B : Nat} {w : World} {g n c : Nat} {l : List Int} (h : OwnY yBy B w (.slice (some ⟨g, 0, none⟩) n c) l) {i : Nat} (hi : i < l.length) (h0 : Int) :
    OwnY yBy B (w.setCell ⟨g, i, none⟩ (.int .u8 h0)) (.slice (some ⟨g, 0, none⟩) n c) (l.set i h0) := by
  have hx : l[i]? = some l[i] := List.getElem?_eq_getElem hi
  generalize l[i] = x at hx
  obtain c0 := x
  have q0 := h.set0 hx
  have q1 := q0.set2 kBy hi h0 0 (.int .u8 h0) (by decide) rfl
  rw [show i * yBy.k + 0 = i from Nat.mul_one i] at q1
  exact q1
set_option maxRecDepth 100000 in
/-- A call of markByte, in a region that draws its order. -/
theorem step_markBy {ops : Array Oper} {o : Oper} {a : Act} {w : World} {K : Act → World → Prop} {Q : Exit → Act → World → Prop} {E : Prop} (hg : o.guard = none) (x y : Operand)
    (ho : o.op = .call { callee := .value (.func 53), args := #[x, y], argTypes := #[3, 3] }) (i t : Nat) (hi : i ≤ 1000) (ht : t ≤ 140737488355328) (hx : a.eval x = .int .i64 (i : Int)) (hy : a.eval y = .int .i64 (t : Int)) (r : Value) (hrv : byV (mkByB i t) = r)
    (hK : ∀ w', Below w.heap.size w w' → K (a.put o.dst r) w') :
    if Region.wanted o (yielded ops a.tmps) = true then Oper.wp Try.prog o a w K Q else E := by
  have hw : Region.wanted o (yielded ops a.tmps) = true := by simp [Region.wanted, hg]
  rw [if_pos hw]
  have hr : (execOp a.eval o).run Try.prog w = .ok (.enter 53 #[.int .i64 (i : Int), .int .i64 (t : Int)]) w := by
    unfold execOp
    simp only [ho, resolve, invoke, Sem.run_bind, List.map_toArray, List.map_cons, List.map_nil, hx, hy]
    rfl
  unfold Oper.wp
  rw [hr, Oper.upon_enter]
  refine (markBy_any i t w hi ht).mono ?_
  rintro e w' ⟨rfl, h2⟩
  rw [hrv]
  exact hK w' h2
/-- What a cell holds. -/
def vAtBy (v : World) (p : Addr) : Value := (v.cell? p).getD undef
theorem vAtBy_of {v : World} {p : Addr} {x : Value} (h : v.cell? p = some x) : v.cell? p = some (vAtBy v p) := by unfold vAtBy; rw [h]; rfl
theorem heldBy {w v : World} {q : Nat} {L : List Ent} {j k : Nat} {y : Ent} {D : List Int} (h : LBk w q L) (hy : L[j]? = some y) (u : Upd (blk L) w v) (hd : D.length = y.n) (o : OwnY yBy 0 v (.slice (some ⟨y.g, 0, none⟩) y.n y.c) D) (hk : k < y.n) :
    Upd (blk L) w v ∧ v.cell? ⟨q, j, none⟩ = some (.slice (some ⟨y.g, 0, none⟩) y.n y.c) ∧ v.cell? ⟨y.g, k, none⟩ = some (vAtBy v ⟨y.g, k, none⟩) ∧ v.frozen? ⟨y.g, k, none⟩ = false := by
  obtain ⟨x, hx⟩ : ∃ x, D[k]? = some x := ⟨_, List.getElem?_eq_getElem (by omega)⟩
  have e0 := o.rwBy hx
  exact ⟨u, (h.upd u).row j y hy, vAtBy_of e0, o.free _⟩
/-- The stores of a mark. -/
theorem updBy (v : World) (y : Ent) (k : Nat) (h0 : Int) : Upd (fun i => i = y.g) v (v.setCell ⟨y.g, k, none⟩ (.int .u8 h0)) :=
  (Upd.refl (fun i => i = y.g) v).setCell (p := ⟨y.g, k, none⟩) (.inl rfl) (.int .u8 h0)
set_option maxRecDepth 100000 in
set_option maxHeartbeats 4000000 in
theorem apartBy_any (b q c n : Nat) (L : List Ent) (w : World) (hc : w.cell? ⟨b, 0, none⟩ = some (.slice (some ⟨q, 0, none⟩) n c)) (hn : L.length = n) (hn0 : n ≤ c) (hn1 : c ≤ maxLen) (h : LBk w q L) (own : ∀ i e, L[i]? = some e → MkY yBy mkByB w e i 0) :
    Calls Try.prog 31 #[.pointer (some ⟨b, 0, none⟩)] w fun e w' => e = .returned (.bool true) ∧ Upd (blk L) w w' := by
  have LBH := hide h
  have HN := hide hn
  have hq := h.lt
  have hl := h.len
  unfold maxLen at hn1
  rw [hn] at hl
  clear h hn
  go_enter Try.func31, Try.ntmps31
  go_wp2
  go_loopw [4] (fun i wr => ∃ j : Nat, i = .int .i64 (j : Int) ∧ j ≤ n ∧ Upd (blk L) w wr ∧ ∀ t e, L[t]? = some e → MkY yBy mkByB wr e t (if t < j then e.n else 0)) (fun i _ => n - (intOf i).toNat)
  case atStart => exact ⟨0, rfl, Nat.zero_le _, Upd.refl _ _, fun t e ht => by rw [if_neg (by omega)]; exact own t e ht⟩
  case round =>
    obtain ⟨j, rfl, hj, hu, hm⟩ := hrel
    have HM := hide hm
    clear hm
    by_cases hlt : j < n
    · obtain ⟨y, hy⟩ : ∃ y, L[j]? = some y := ⟨_, List.getElem?_eq_getElem (by rw [HN.out]; exact hlt)⟩
      have r0 := (LBH.out.upd hu).row j y hy
      obtain ⟨_, y0, y1⟩ := LBH.out.out j y hy
      have HY := hide hy
      have cp := (HM.out j y hy).cap
      unfold maxLen at cp
      obtain ⟨cp1, cp2⟩ := cp
      have hqr : q < wr.heap.size := Nat.lt_of_lt_of_le hq hu.size
      clear hy
      go_wp2
      go_loopw [5] (fun i ws => ∃ k : Nat, i = .int .i64 (k : Int) ∧ k ≤ y.n ∧ Upd (blk L) w ws ∧ MkY yBy mkByB ws y j k ∧ ∀ t e, t ≠ j → L[t]? = some e → MkY yBy mkByB ws e t (if t < j then e.n else 0)) (fun i _ => y.n - (intOf i).toNat)
      case atStart => exact ⟨0, rfl, Nat.zero_le _, hu, (HM.out j y HY.out).zero j, fun t e _ ht => HM.out t e ht⟩
      case round =>
        obtain ⟨k, rfl, hk, hu2, hm2, hm3⟩ := hrel
        have r1 := (LBH.out.upd hu2).row j y HY.out
        by_cases hlt2 : k < y.n
        · have M3 := hide hm3
          obtain ⟨D, D1, D2, D3⟩ := hm2
          obtain ⟨xk, hxk⟩ : ∃ xk, D[k]? = some xk := ⟨_, List.getElem?_eq_getElem (by omega)⟩
          have hDk := hide hxk
          have OD := hide D2
          have HD3 := hide D3
          have HD1 := hide D1
          have hyS : blk L y.g := ⟨y, List.mem_of_getElem? HY.out, rfl⟩
          have hqr2 : q < wr.heap.size := Nat.lt_of_lt_of_le hq hu2.size
          obtain ⟨h0, hh0⟩ : ∃ h0, mkByB j k = h0 := ⟨_, rfl⟩
          have HH0 := hide hh0
          have HRV : Hid (byV (mkByB j k) = .int .u8 h0) := by show _ = _; rw [hh0]; rfl
          clear hm3 D1 D2 D3 hxk hh0
          go_wp2_with fail
          have KS : Hid (∀ v, Below wr.heap.size wr v → (Upd (blk L) w v ∧ v.cell? ⟨q, j, none⟩ = some (.slice (some ⟨y.g, 0, none⟩) y.n y.c) ∧ v.cell? ⟨y.g, k, none⟩ = some (vAtBy v ⟨y.g, k, none⟩) ∧ v.frozen? ⟨y.g, k, none⟩ = false)) := fun v bv => heldBy LBH.out HY.out (hu2.trans (Upd.of_below bv)) HD1.out (OD.out.grow bv) hlt2
          have O7 : Hid (∀ v, Below wr.heap.size wr v → OwnY yBy 0 (v.setCell ⟨y.g, k, none⟩ (.int .u8 h0)) (.slice (some ⟨y.g, 0, none⟩) y.n y.c) (D.set k h0)) := fun v bv => (OD.out.grow bv).putBy (by rw [HD1.out]; exact hlt2) h0
          have KS2 : Hid (∀ v, Below wr.heap.size wr v → (Upd (blk L) w (v.setCell ⟨y.g, k, none⟩ (.int .u8 h0)) ∧ (v.setCell ⟨y.g, k, none⟩ (.int .u8 h0)).cell? ⟨q, j, none⟩ = some (.slice (some ⟨y.g, 0, none⟩) y.n y.c) ∧ (v.setCell ⟨y.g, k, none⟩ (.int .u8 h0)).cell? ⟨y.g, k, none⟩ = some (vAtBy (v.setCell ⟨y.g, k, none⟩ (.int .u8 h0)) ⟨y.g, k, none⟩) ∧ (v.setCell ⟨y.g, k, none⟩ (.int .u8 h0)).frozen? ⟨y.g, k, none⟩ = false)) := fun v bv => heldBy LBH.out HY.out ((hu2.trans (Upd.of_below bv)).trans ((updBy v y k h0).mono (fun i _ e => by subst e; exact hyS))) (by rw [List.length_set]; exact HD1.out) (O7.out v bv) hlt2
          have bd := (Below.refl wr.heap.size wr).drew
          have MD : Hid (∀ v, Calls Try.prog 53 #[.int .i64 (j : Int), .int .i64 (k : Int)] v fun e w' => e = .returned (.int .u8 h0) ∧ Below v.heap.size v w') := fun v => by
            have := markBy_any j k v (by omega) (by omega)
            rw [HRV.out] at this
            exact this
          go_region_held3 (fun v => Upd (blk L) w v ∧ v.cell? ⟨q, j, none⟩ = some (.slice (some ⟨y.g, 0, none⟩) y.n y.c) ∧ v.cell? ⟨y.g, k, none⟩ = some (vAtBy v ⟨y.g, k, none⟩) ∧ v.frozen? ⟨y.g, k, none⟩ = false)
            (first | with_reducible exact KS.out _ bd | with_reducible exact KS.out _ bb | with_reducible exact KS2.out _ bb | exact KS2.out v bb)
            (first
              | (go_at_call 53; refine (MD.out _).mono ?_; rintro e v ⟨rfl, bv⟩; have bb : Below wr.heap.size wr v := Below.trans (by first | assumption | exact bd) (bv.mono (Below.size (by first | assumption | exact bd))); clear bv))
          have hu3 := hide ((hu2.trans (Upd.of_below bb)).trans ((updBy v y k h0).mono (fun i _ e => by subst e; exact hyS)))
          have hm3 := hide (MkY.step (mk := mkByB) (i := j) HD1.out HD3.out hlt2 (by rw [HH0.out]; exact O7.out v bb))
          have hm4 : Hid (∀ t e, t ≠ j → L[t]? = some e → MkY yBy mkByB (v.setCell ⟨y.g, k, none⟩ (.int .u8 h0)) e t (if t < j then e.n else 0)) := fun t e ht he => ((M3.out t e ht he).bel bb).upd (updBy v y k h0) (fun hh => ht (LBH.out.dif t j e y he HY.out hh))
          clear KS KS2 O7 MD M3 OD
          go_wp2
          go_round
          case rel => exact ⟨k + 1, by go_num, by omega, hu3.out, hm3.out, hm4.out⟩
          case measure => simp [intOf]; omega
        · obtain rfl : k = y.n := by omega
          have M3 := hide hm3
          have M2 := hide hm2
          clear hm2 hm3
          go_wp2
          go_round
          case rel =>
            refine ⟨j + 1, by go_num, by omega, hu2, fun t e ht => ?_⟩
            by_cases h1 : t = j
            · subst h1
              rw [if_pos (by omega)]
              have := HY.out
              rw [ht] at this
              cases this
              exact M2.out
            · have := M3.out t e h1 ht
              by_cases h2 : t < j
              · rw [if_pos h2] at this
                rw [if_pos (by omega)]
                exact this
              · rw [if_neg h2] at this
                rw [if_neg (by omega)]
                exact this
          case measure => simp [intOf]; omega
    · obtain rfl : j = n := by omega
      have M1 : Hid (∀ t e, L[t]? = some e → MkY yBy mkByB wr e t e.n) := fun t e ht => by
        have := HM.out t e ht
        have hlt3 := (List.getElem?_eq_some_iff.1 ht).1
        rw [HN.out] at hlt3
        rw [if_pos hlt3] at this
        exact this
      clear HM own hc
      obtain ⟨w2, hw2⟩ : ∃ w2, w2 = wr := ⟨_, rfl⟩
      subst hw2
      go_wp2
      go_loopw [7, 6] (fun i v ws => ∃ t : Nat, i = .int .i64 (t : Int) ∧ t ≤ j ∧ ∃ Gs, PGY yBy zByB mkByB w L w2 t v Gs ws) (fun i _ _ => j - (intOf i).toNat)
      case atStart => exact ⟨0, rfl, Nat.zero_le _, [], rfl, OwnY.nil _ _ _, hu, Nat.le_refl _, (fun t x hx => by cases hx), fun t e ht => ⟨(M1.out t e ht).sh kBy, fun _ => M1.out t e ht⟩⟩
      case round =>
        obtain ⟨t, rfl, ht, Gs, ph⟩ := hrel
        have PP := hide ph
        have hu1 := ph.upd
        clear ph
        by_cases hlt2 : t < j
        · obtain ⟨y, hy⟩ : ∃ y, L[t]? = some y := ⟨_, List.getElem?_eq_getElem (by rw [HN.out]; exact hlt2)⟩
          have r0 := (LBH.out.upd hu1).row t y hy
          obtain ⟨_, y0, y1⟩ := LBH.out.out t y hy
          have HY := hide hy
          have mk := (PP.out.mks t y hy).2 (Nat.le_refl _)
          have OW := hide mk.own
          have SH := hide (mk.sh kBy)
          have cp := mk.cap
          unfold maxLen at cp
          obtain ⟨cp1, cp2⟩ := cp
          have hqr : q < wr.heap.size := Nat.lt_of_lt_of_le hq hu1.size
          obtain ⟨wi, hwi⟩ : ∃ wi, wi = wr := ⟨_, rfl⟩
          subst hwi
          clear hy mk
          go_wp2
          go_loopw [9, 8] (fun i v ws => ∃ m : Nat, i = .int .i64 (m : Int) ∧ m ≤ 70 ∧ PIY yBy mkByB wi y t m v ws) (fun i _ _ => 70 - (intOf i).toNat)
          case atStart => exact ⟨0, rfl, by omega, OW.out, ⟨y.g, rfl, .inl rfl⟩, Upd.refl _ _, SH.out⟩
          case round =>
            obtain ⟨m, rfl, hm, pi⟩ := hrel
            have PJ := hide pi
            obtain ⟨a8, c8, hv8, k8, k8', _⟩ := pi.own.form
            rw [mkY_length] at hv8 k8
            unfold maxLen at k8'
            subst hv8
            clear pi
            by_cases hlt3 : m < 70
            · obtain ⟨h0, hh0⟩ : ∃ h0, mkByB t (y.n + m) = h0 := ⟨_, rfl⟩
              have MD : Hid (Calls Try.prog 53 #[.int .i64 (t : Int), .int .i64 ((y.n : Int) + (m : Int))] wr fun e w' => e = .returned (.int .u8 h0) ∧ Below wr.heap.size wr w') := by
                have := markBy_any t (y.n + m) wr (by omega) (by omega)
                rw [Int.natCast_add, hh0] at this
                exact this
              have HH0 := hide hh0
              clear hh0
              go_wp2_with fail
              refine MD.out.mono ?_
              rintro e w3 ⟨rfl, b3⟩
              have b4 := hide (b3.alloc b3.size (.cells #[.int .u8 h0] 5))
              have HO := hide (PJ.out.own.grow b4.out)
              have SB : Hid (SlY yBy (w3.alloc (.cells #[.int .u8 h0] 5)) (some ⟨w3.heap.size, 0, none⟩) 1 1 [h0]) := sl_box (Y := yBy) w3 h0 5
              clear b3
              have hml : (mkY mkByB t (y.n + m)).length = y.n + m := mkY_length _ _
              have HML := hide hml
              clear hml
              have MM : Hid (∀ v' w4, OwnY yBy 0 w4 v' (mkY mkByB t (y.n + m) ++ [h0]) → OwnY yBy 0 w4 v' (mkY mkByB t (y.n + m) ++ [mkByB t (y.n + m)])) := fun v' w4 h => by rw [HH0.out]; exact h
              go_wp2_with (at_builtin; go_must (refine appYB kBy _ rfl (.tmp 54) (.tmp 59) rfl 0 (mkY mkByB t (y.n + m)) _ rfl (some ⟨w3.heap.size, 0, none⟩) 1 1 rfl [h0] SB.out HO.out (Nat.zero_le _) (by rw [HML.out]; unfold maxLen; omega) (by rw [HML.out]; show (_ + 1) * 1 ≤ _; omega) ?_))
              intro v' w4 o4 g4 at4
              have pj := hide (PJ.out.step kBy b4.out (MM.out v' w4 o4) g4 (by simpa using at4))
              clear HO MD o4 g4 at4 PJ SB
              go_wp2
              go_round
              case rel => exact ⟨m + 1, by go_num, by omega, pj.out⟩
              case measure => simp [intOf]; omega
            · obtain rfl : m = 70 := by omega
              obtain ⟨g8, hg8, _⟩ := PJ.out.at_
              obtain ⟨x8, rfl⟩ : ∃ x8, a8 = some x8 := by
                match a8, hg8 with
                | some x8, _ => exact ⟨x8, rfl⟩
              obtain ⟨g9, hx8⟩ : ∃ g9, x8 = ⟨g9, 0, none⟩ := by
                obtain ⟨a', c', hf', _, _, _, hx⟩ := PJ.out.own.form
                injection hf' with f1 f2 f3
                obtain ⟨g2, hx2, _⟩ := hx x8 f1.symm
                exact ⟨g2, hx2⟩
              subst hx8
              have YL : ∀ (s : Nat) (e : Ent), L[s]? = some e → e.g < w2.heap.size := fun s e he => (M1.out s e he).lt
              have b5 : Below wr.heap.size wr (wr.alloc (.cells #[.slice (some ⟨g9, 0, none⟩) (y.n + 70) c8] 22)) := (Below.refl _ _).alloc (Nat.le_refl _) _
              have OV := hide ((PP.out.own.upd1 PJ.out.upd (fun k hk e => by have := YL t y HY.out; have := (PP.out.own.blk k hk).1; subst e; omega)).grow b5)
              have hs7 := PP.out.size
              have hs8 := PJ.out.upd.size
              have GLn := hide PP.out.len
              have SB : Hid (SlY zByB (wr.alloc (.cells #[.slice (some ⟨g9, 0, none⟩) (y.n + 70) c8] 22)) (some ⟨wr.heap.size, 0, none⟩) 1 1 [⟨some ⟨g9, 0, none⟩, c8, mkY mkByB t (y.n + 70)⟩]) := by
                have := sl_box (Y := zByB) wr ⟨some ⟨g9, 0, none⟩, c8, mkY mkByB t (y.n + 70)⟩ 22
                simp only [zByB, yS, mkY_length] at this
                exact this
              clear hg8
              go_wp2_with (at_builtin; go_must (refine appY kzByB _ rfl (.tmp 61) (.tmp 63) rfl w2.heap.size Gs _ rfl (some ⟨wr.heap.size, 0, none⟩) 1 1 rfl [⟨some ⟨g9, 0, none⟩, c8, mkY mkByB t (y.n + 70)⟩] SB.out OV.out (by simp; omega) (by rw [GLn.out]; unfold maxLen; omega) (by rw [GLn.out]; show (_ + 1) * 24 ≤ _; omega) ?_))
              intro v' w4 o4 g4 _
              have pg := hide (PP.out.step kBy hTByB PJ.out HY.out YL LBH.out.dif hu b5 o4 g4 OV.out)
              clear OV o4 g4 PJ PP YL SB b5
              go_wp2
              go_round
              case rel => exact ⟨t + 1, by go_num, by omega, _, pg.out⟩
              case measure => simp [intOf]; omega
        · obtain rfl : t = j := by omega
          obtain ⟨a3, c3, hv3, m3, m3', n3, p3⟩ := PP.out.own.form
          rw [PP.out.len] at hv3 m3
          unfold maxLen at m3'
          subst hv3
          have P3 := hide p3
          have N3 := hide n3
          clear p3 n3
          obtain ⟨w5, hw5⟩ : ∃ w5, w5 = wr := ⟨_, rfl⟩
          subst hw5
          go_wp2
          go_loopw [10] (fun i ws => ∃ s : Nat, i = .int .i64 (s : Int) ∧ s ≤ t ∧ Below w5.heap.size w5 ws) (fun i _ => t - (intOf i).toNat)
          case atStart => exact ⟨0, rfl, Nat.zero_le _, Below.refl _ _⟩
          case round =>
            obtain ⟨s, rfl, hs, hb⟩ := hrel
            by_cases hlt3 : s < t
            · obtain ⟨x, hx⟩ : ∃ x, Gs[s]? = some x := ⟨_, List.getElem?_eq_getElem (by rw [PP.out.len]; exact hlt3)⟩
              obtain ⟨y, g', hy, hxD, hxa, _, hxo⟩ := PP.out.each s x hx
              obtain ⟨z3, rfl⟩ : ∃ z3, a3 = some z3 := by
                cases a3 with
                | none => have := (N3.out rfl).1; rw [this] at hx; simp at hx
                | some z => exact ⟨z, rfl⟩
              obtain ⟨g3, rfl, _, hg3⟩ := P3.out z3 rfl
              have r3 : w5.cell? ⟨g3, s, none⟩ = some (.slice x.a x.D.length x.c) := by
                have := PP.out.own.cell kzByB s x hx 0 _ rfl
                simp only [zByB, yS, Nat.mul_one, Nat.add_zero] at this
                exact this
              rw [hxD, mkY_length, hxa] at r3
              rw [hxD, mkY_length] at hxo
              have r1 := (LBH.out.upd hu1).row s y hy
              obtain ⟨_, y0, y1⟩ := LBH.out.out s y hy
              have hqr : q < w5.heap.size := Nat.lt_of_lt_of_le hq hu1.size
              have XO := hide hxo
              have SHY := hide (PP.out.mks s y hy).1
              have hgl := (hxo.blk g' rfl).2
              obtain ⟨_, cx, hfx, hc1, hc2, _⟩ := hxo.form
              rw [mkY_length] at hfx hc1
              injection hfx with f1 f2 f3
              subst f3
              clear f1 f2
              unfold maxLen at hc2
              have hgy := SHY.out.1
              generalize x.c = xc at *
              clear hx hxD hxa hxo
              have q3 := (hb.cell (p := ⟨g3, s, none⟩) hg3).trans r3
              go_wp2
              go_loopw [11] (fun i ws => ∃ k : Nat, i = .int .i64 (k : Int) ∧ k ≤ y.n + 70 ∧ Below w5.heap.size w5 ws) (fun i _ => y.n + 70 - (intOf i).toNat)
              case atStart => exact ⟨0, rfl, Nat.zero_le _, hb⟩
              case round =>
                obtain ⟨k, rfl, hk, hb2⟩ := hrel
                have q4 := (hb2.cell (p := ⟨g3, s, none⟩) hg3).trans r3
                by_cases hlt4 : k < y.n + 70
                · have MD : Hid (∀ v, Calls Try.prog 53 #[.int .i64 (s : Int), .int .i64 (k : Int)] v fun e w' => e = .returned (byV (mkByB s k)) ∧ Below v.heap.size v w') := fun v => markBy_any s k v (by omega) (by omega)
                  have e0 := XO.out.rwBy (i := k) (mkY_at (mk := mkByB) _ _ _ hlt4)
                  have bd := hb2.drew
                  dsimp only [mkByB, byV] at e0 MD
                  by_cases hlt5 : k < y.n
                  · have c0 := SHY.out.2 k hlt5 0 _ rfl
                    rw [show k * yBy.k + 0 = k from Nat.mul_one k] at c0
                    dsimp only [mkByB] at c0
                    generalize ((s : Int) * 31 + (k : Int) * 7 + 5) % 256 = h0 at *
                    have KS : Hid (∀ v, Below w5.heap.size w5 v → (Below w5.heap.size w5 v ∧ v.cell? ⟨g3, s, none⟩ = some (.slice (some ⟨g', 0, none⟩) (y.n + 70) xc) ∧ v.cell? ⟨g', k, none⟩ = some (.int .u8 h0) ∧ v.cell? ⟨q, s, none⟩ = some (.slice (some ⟨y.g, 0, none⟩) y.n y.c) ∧ v.cell? ⟨y.g, k, none⟩ = some (.int .u8 h0))) := fun v bv =>
                      ⟨bv, (bv.cell (p := ⟨g3, s, none⟩) hg3).trans r3, (bv.cell (p := ⟨g', k, none⟩) hgl).trans e0, (bv.cell (p := ⟨q, s, none⟩) hqr).trans r1, (bv.cell (p := ⟨y.g, k, none⟩) hgy).trans c0⟩
                    clear e0 c0 r1 r3 q3 PP P3 N3 M1 LBH XO SHY HN
                    go_wp2_with fail
                    go_region_held3 (fun v => Below w5.heap.size w5 v ∧ v.cell? ⟨g3, s, none⟩ = some (.slice (some ⟨g', 0, none⟩) (y.n + 70) xc) ∧ v.cell? ⟨g', k, none⟩ = some (.int .u8 h0) ∧ v.cell? ⟨q, s, none⟩ = some (.slice (some ⟨y.g, 0, none⟩) y.n y.c) ∧ v.cell? ⟨y.g, k, none⟩ = some (.int .u8 h0))
                      (first | with_reducible exact KS.out _ bd | exact KS.out _ (by assumption))
                      (first
                        | (go_at_call 53; refine (MD.out _).mono ?_; rintro e v ⟨rfl, bv⟩; have bb : Below w5.heap.size w5 v := Below.trans (by first | assumption | exact bd) (bv.mono (Below.size (by first | assumption | exact bd))); clear bv))
                    clear KS MD
                    go_wp2
                    go_round
                    case rel => exact ⟨k + 1, by go_num, by omega, bb⟩
                    case measure => simp [intOf]; omega
                  · have f5 : decide ((k : Int) < (y.n : Int)) = false := by simp; omega
                    generalize ((s : Int) * 31 + (k : Int) * 7 + 5) % 256 = h0 at *
                    have KS : Hid (∀ v, Below w5.heap.size w5 v → (Below w5.heap.size w5 v ∧ v.cell? ⟨g3, s, none⟩ = some (.slice (some ⟨g', 0, none⟩) (y.n + 70) xc) ∧ v.cell? ⟨g', k, none⟩ = some (.int .u8 h0) ∧ v.cell? ⟨q, s, none⟩ = some (.slice (some ⟨y.g, 0, none⟩) y.n y.c))) := fun v bv =>
                      ⟨bv, (bv.cell (p := ⟨g3, s, none⟩) hg3).trans r3, (bv.cell (p := ⟨g', k, none⟩) hgl).trans e0, (bv.cell (p := ⟨q, s, none⟩) hqr).trans r1⟩
                    clear e0 r1 r3 q3 PP P3 N3 M1 LBH XO SHY HN
                    go_wp2_with fail
                    refine wp_region_quietBy (C := fun v => Below w5.heap.size w5 v ∧ v.cell? ⟨g3, s, none⟩ = some (.slice (some ⟨g', 0, none⟩) (y.n + 70) xc) ∧ v.cell? ⟨g', k, none⟩ = some (.int .u8 h0) ∧ v.cell? ⟨q, s, none⟩ = some (.slice (some ⟨y.g, 0, none⟩) y.n y.c)) (by kernel_rfl) (by kernel_rfl) (KS.out _ bd) ?_
                    refine BigFrame.wpQuiet_want (by rfl) (fun K hK => ⟨.slice (some ⟨g3, 0, none⟩) t c3, fun w' hw' => ?_, hK _ ?_⟩)
                    · go_simp
                    clear hK
                    simp only [Act.put, List.setIfInBounds_toArray, List.set_cons_zero, List.set_cons_succ]
                    refine BigFrame.wpQuiet_want (by rfl) (fun K hK => ⟨.int .i64 (s : Int), fun w' hw' => ?_, hK _ ?_⟩)
                    · go_simp
                    clear hK
                    simp only [Act.put, List.setIfInBounds_toArray, List.set_cons_zero, List.set_cons_succ]
                    refine BigFrame.wpQuiet_want (by rfl) (fun K hK => ⟨.pointer (some ⟨g3, s, none⟩), fun w' hw' => ?_, hK _ ?_⟩)
                    · go_simp
                    clear hK
                    simp only [Act.put, List.setIfInBounds_toArray, List.set_cons_zero, List.set_cons_succ]
                    refine BigFrame.wpQuiet_want (by rfl) (fun K hK => ⟨.slice (some ⟨g', 0, none⟩) (y.n + 70) xc, fun w' hw' => ?_, hK _ ?_⟩)
                    · (obtain ⟨_, e1, _⟩ := hw'; go_simp)
                    clear hK
                    simp only [Act.put, List.setIfInBounds_toArray, List.set_cons_zero, List.set_cons_succ]
                    refine BigFrame.wpQuiet_want (by rfl) (fun K hK => ⟨.int .i64 (k : Int), fun w' hw' => ?_, hK _ ?_⟩)
                    · go_simp
                    clear hK
                    simp only [Act.put, List.setIfInBounds_toArray, List.set_cons_zero, List.set_cons_succ]
                    refine BigFrame.wpQuiet_want (by rfl) (fun K hK => ⟨.pointer (some ⟨g', k, none⟩), fun w' hw' => ?_, hK _ ?_⟩)
                    · go_simp
                    clear hK
                    simp only [Act.put, List.setIfInBounds_toArray, List.set_cons_zero, List.set_cons_succ]
                    refine BigFrame.wpQuiet_want (by rfl) (fun K hK => ⟨.int .u8 h0, fun w' hw' => ?_, hK _ ?_⟩)
                    · (obtain ⟨_, _, e1, _⟩ := hw'; go_simp)
                    clear hK
                    simp only [Act.put, List.setIfInBounds_toArray, List.set_cons_zero, List.set_cons_succ]
                    refine BigFrame.wpQuiet_want (by rfl) (fun K hK => ⟨.int .i64 (s : Int), fun w' hw' => ?_, hK _ ?_⟩)
                    · go_simp
                    clear hK
                    simp only [Act.put, List.setIfInBounds_toArray, List.set_cons_zero, List.set_cons_succ]
                    refine BigFrame.wpQuiet_want (by rfl) (fun K hK => ⟨.int .i64 (k : Int), fun w' hw' => ?_, hK _ ?_⟩)
                    · go_simp
                    clear hK
                    simp only [Act.put, List.setIfInBounds_toArray, List.set_cons_zero, List.set_cons_succ]
                    refine BigFrame.wpQuiet_want (by rfl) (fun K hK => ⟨.int .u8 h0, fun w' hw' => ?_, hK _ ?_⟩)
                    · (go_simp; exact (MD.out w').mono (fun e w'' ⟨he, bv⟩ => ⟨he, KS.out w'' (hw'.1.trans (bv.mono hw'.1.size))⟩))
                    clear hK
                    simp only [Act.put, List.setIfInBounds_toArray, List.set_cons_zero, List.set_cons_succ]
                    refine BigFrame.wpQuiet_want (by rfl) (fun K hK => ⟨.bool false, fun w' hw' => ?_, hK _ ?_⟩)
                    · go_simp
                    clear hK
                    simp only [Act.put, List.setIfInBounds_toArray, List.set_cons_zero, List.set_cons_succ]
                    refine BigFrame.wpQuiet_want (by rfl) (fun K hK => ⟨.bool false, fun w' hw' => ?_, hK _ ?_⟩)
                    · go_simp
                    clear hK
                    simp only [Act.put, List.setIfInBounds_toArray, List.set_cons_zero, List.set_cons_succ]
                    refine BigFrame.wpQuiet_want (by rfl) (fun K hK => ⟨.int .i64 (k : Int), fun w' hw' => ?_, hK _ ?_⟩)
                    · go_simp
                    clear hK
                    simp only [Act.put, List.setIfInBounds_toArray, List.set_cons_zero, List.set_cons_succ]
                    refine BigFrame.wpQuiet_want (by rfl) (fun K hK => ⟨.slice (some ⟨q, 0, none⟩) t c, fun w' hw' => ?_, hK _ ?_⟩)
                    · go_simp
                    clear hK
                    simp only [Act.put, List.setIfInBounds_toArray, List.set_cons_zero, List.set_cons_succ]
                    refine BigFrame.wpQuiet_want (by rfl) (fun K hK => ⟨.int .i64 (s : Int), fun w' hw' => ?_, hK _ ?_⟩)
                    · go_simp
                    clear hK
                    simp only [Act.put, List.setIfInBounds_toArray, List.set_cons_zero, List.set_cons_succ]
                    refine BigFrame.wpQuiet_want (by rfl) (fun K hK => ⟨.pointer (some ⟨q, s, none⟩), fun w' hw' => ?_, hK _ ?_⟩)
                    · go_simp
                    clear hK
                    simp only [Act.put, List.setIfInBounds_toArray, List.set_cons_zero, List.set_cons_succ]
                    refine BigFrame.wpQuiet_want (by rfl) (fun K hK => ⟨.slice (some ⟨y.g, 0, none⟩) y.n y.c, fun w' hw' => ?_, hK _ ?_⟩)
                    · (obtain ⟨_, _, _, e1⟩ := hw'; go_simp)
                    clear hK
                    simp only [Act.put, List.setIfInBounds_toArray, List.set_cons_zero, List.set_cons_succ]
                    refine BigFrame.wpQuiet_want (by rfl) (fun K hK => ⟨.int .i64 (y.n : Int), fun w' hw' => ?_, hK _ ?_⟩)
                    · go_simp
                    clear hK
                    simp only [Act.put, List.setIfInBounds_toArray, List.set_cons_zero, List.set_cons_succ]
                    refine BigFrame.wpQuiet_want (by rfl) (fun K hK => ⟨.bool false, fun w' hw' => ?_, hK _ ?_⟩)
                    · go_simp
                    clear hK
                    simp only [Act.put, List.setIfInBounds_toArray, List.set_cons_zero, List.set_cons_succ]
                    refine BigFrame.wpQuiet_want (by rfl) (fun K hK => ⟨.bool false, fun w' hw' => ?_, hK _ ?_⟩)
                    · go_simp
                    clear hK
                    simp only [Act.put, List.setIfInBounds_toArray, List.set_cons_zero, List.set_cons_succ]
                    go_big_quiet_skip
                    go_big_quiet_skip
                    go_big_quiet_skip
                    go_big_quiet_skip
                    go_big_quiet_skip
                    go_big_quiet_skip
                    go_big_quiet_skip
                    go_big_quiet_skip
                    go_big_quiet_skip
                    go_big_quiet_skip
                    go_big_quiet_skip
                    refine BigFrame.wpQuiet_want (by rfl) (fun K hK => ⟨.bool false, fun w' hw' => ?_, hK _ ?_⟩)
                    · go_simp
                    clear hK
                    simp only [Act.put, List.setIfInBounds_toArray, List.set_cons_zero, List.set_cons_succ]
                    refine BigFrame.wpQuiet_want (by rfl) (fun K hK => ⟨.bool false, fun w' hw' => ?_, hK _ ?_⟩)
                    · go_simp
                    clear hK
                    simp only [Act.put, List.setIfInBounds_toArray, List.set_cons_zero, List.set_cons_succ]
                    refine wpQuiet_nil ?_
                    rintro v ⟨bb, _⟩
                    clear KS MD
                    go_wp2
                    go_round
                    case rel => exact ⟨k + 1, by go_num, by omega, bb⟩
                    case measure => simp [intOf]; omega
                · obtain rfl : k = y.n + 70 := by omega
                  clear PP P3 N3 M1 LBH XO SHY HN
                  go_wp2
                  go_round
                  case rel => exact ⟨s + 1, by go_num, by omega, hb2⟩
                  case measure => simp [intOf]; omega
            · obtain rfl : s = t := by omega
              have hfin : Upd (blk L) w wr := hu1.trans (Upd.of_below hb)
              clear PP P3 N3 M1 LBH HN
              go_wp2
              go_ret
              exact ⟨rfl, hfin⟩

end Go.Proofs.Ytegkkoggfjgkbaa
