import Derived.Test.YtdddbfincmodjaaGCb
namespace Go.Proofs.Ytdddbfincmodjaa
open Go.RowKit Go.Maps
open Classical
set_option linter.unusedVariables false
set_option linter.unusedSimpArgs false

/-- The last rows, as the map has them. -/
def lF (l : List Rw) (s : Int) : Option Value := (lo l s).map Rw.val
theorem lF_snoc {l l' : List Rw} {r : Rw} (h : ∀ s, lo l' s = if r.c = s then some r else lo l s) : (fun s' => if s' = r.c then some r.val else lF l s') = lF l' := by
  funext s
  unfold lF
  rw [h]
  by_cases hs : r.c = s
  · simp [hs]
  · have hs' : ¬ s = r.c := fun e => hs e.symm
    simp [hs, hs']
theorem box7 {w w1 : World} {x0 x1 x2 x3 x4 x5 x6 : Value} {T : TypeId} {B : Nat} (hb : Below B (w.alloc (.cells #[x0, x1, x2, x3, x4, x5, x6] T)) w1) (hB : w.heap.size < B) : w1.cell? ⟨w.heap.size, 0, none⟩ = some x0 ∧ w1.cell? ⟨w.heap.size, 1, none⟩ = some x1 ∧ w1.cell? ⟨w.heap.size, 2, none⟩ = some x2 ∧ w1.cell? ⟨w.heap.size, 3, none⟩ = some x3 ∧ w1.cell? ⟨w.heap.size, 4, none⟩ = some x4 ∧ w1.cell? ⟨w.heap.size, 5, none⟩ = some x5 ∧ w1.cell? ⟨w.heap.size, 6, none⟩ = some x6 :=
  ⟨(hb.cell (p := ⟨w.heap.size, 0, none⟩) hB).trans (by simp), (hb.cell (p := ⟨w.heap.size, 1, none⟩) hB).trans (by simp), (hb.cell (p := ⟨w.heap.size, 2, none⟩) hB).trans (by simp), (hb.cell (p := ⟨w.heap.size, 3, none⟩) hB).trans (by simp), (hb.cell (p := ⟨w.heap.size, 4, none⟩) hB).trans (by simp), (hb.cell (p := ⟨w.heap.size, 5, none⟩) hB).trans (by simp), (hb.cell (p := ⟨w.heap.size, 6, none⟩) hB).trans (by simp)⟩
theorem rw_wf {L : List En} (hf : ∀ e ∈ L, e.fits) {k j : Nat} {r : Rw} (h : (rws L k)[j]? = some r) : (Lit.int .i64 r.c).wf = true := by
  rw [rws, List.getElem?_mapIdx] at h
  cases hg : L[j]? with
  | none => rw [hg] at h; cases h
  | some e =>
    rw [hg] at h
    cases h
    exact (hf e (List.mem_of_getElem? hg)).cw
set_option maxRecDepth 100000 in
set_option maxHeartbeats 1000000 in
theorem last_any (L : List En) (a : Option Addr) (c k : Nat) (w : World) (h : SlY yE w a L.length c L) (hf : ∀ e ∈ L, e.fits) (hl : L.length ≤ 256) (hk : k ≤ L.length) :
    Calls Try.prog 28 #[.slice a L.length c, .int .i64 (k : Int)] w fun e w' => e = .returned (.map (some w.heap.size)) ∧ MapF w' w.heap.size L.length (lF (rws L k)) ∧ Below w.heap.size w w' := by
  have hmx := h.max
  have hcp := h.cap
  unfold maxLen at hmx
  have bM : Below w.heap.size w (w.alloc (.map #[] 0)) := (Below.refl _ _).alloc (Nat.le_refl _) _
  have cr := rows_any L a c k (w.alloc (.map #[] 0)) (h.later bM) hf hl hk
  have HW := hide (fun (j : Nat) (r : Rw) (hr : (rws L k)[j]? = some r) => rw_wf hf hr)
  have HT := hide (show ∀ (j : Nat) (r : Rw), (rws L k)[j]? = some r → ∀ s, lo ((rws L k).take (j + 1)) s = if r.c = s then some r else lo ((rws L k).take j) s from fun j r hr s => lo_take hr s)
  have HRE := hide (show (rws L k).take L.length = rws L k from List.take_of_length_le (by rw [rws_length]; exact Nat.le_refl _))
  have HRL := hide (rws_length L k)
  have hmm := @run_makeMap Try.prog
  clear h hf
  generalize rws L k = R at *
  go_enter Try.func28, Try.ntmps28
  go_wp2_with (go_at_call 39; refine cr.mono ?_; rintro e w1 ⟨g, rfl, o1, b1⟩)
  have hgz := o1.lenN.2.1
  have O1 := hide o1
  have M1 : Hid (MapF w1 w.heap.size 0 (lF (R.take 0))) := (MapF.made w).later b1
  have B1 := hide (bM.trans (b1.mono (by simp)))
  clear o1 b1 cr bM
  simp only [World.size_alloc] at hgz
  go_wp2
  go_loopw [13] (fun i wr => ∃ j : Nat, i = .int .i64 (j : Int) ∧ j ≤ L.length ∧ OwnY yR w.heap.size wr (.slice (some ⟨g, 0, none⟩) L.length L.length) R ∧ MapF wr w.heap.size j (lF (R.take j)) ∧ Below w.heap.size w wr) (fun i _ => L.length - (intOf i).toNat)
  case atStart => exact ⟨0, rfl, Nat.zero_le _, O1.out.low (by simp), M1.out, B1.out⟩
  case round =>
    obtain ⟨j, rfl, hj, oT, hm, hb⟩ := hrel
    by_cases hlt : j < L.length
    · obtain ⟨r, hr⟩ : ∃ r, R[j]? = some r := ⟨_, List.getElem?_eq_getElem (by rw [HRL.out]; exact hlt)⟩
      obtain ⟨e0, e1, e2, e3, e4, e5, e6⟩ := oT.rw hr
      have hw := HW.out j r hr
      have hT := hide (HT.out j r hr)
      have hsz := hb.size
      have hmb := hm.lt
      have OT := hide oT
      have MH := hide hm
      clear oT hm hr
      obtain ⟨C, N, P, d, s0, s1, s2⟩ := r
      dsimp only at e0 e1 e2 e3 e4 e5 e6 hw hT
      have bA := (Below.refl _ wr).alloc (Nat.le_refl _) (.cells #[.int .i64 C, .int .i64 N, .int .i64 P, .bool d, .int .i64 s0, .int .i64 s1, .string s2] 57)
      have BA := hide bA
      clear bA
      go_wp2_with (first
        | (at_mapUpdate; refine mapF_put _ rfl _ _ _ 76 rfl 57 Try.underlying76 w.heap.size j _ rfl (MH.out.later BA.out) (by unfold maxLen; omega) C hw _ rfl rfl ?_; intro w3 hm3 hg3)
        | go_in)
      have M3 : Hid (MapF w3 w.heap.size (j + 1) (lF (R.take (j + 1)))) := by
        show MapF _ _ _ _
        have e := lF_snoc (l := R.take j) (l' := R.take (j + 1)) (r := ⟨C, N, P, d, s0, s1, s2⟩) hT.out
        rw [← e]
        exact hm3
      have O3 : Hid (OwnY yR w.heap.size w3 (.slice (some ⟨g, 0, none⟩) L.length L.length) R) := (OT.out.grow BA.out).upd1 ((Upd.refl (fun b => b = w.heap.size) _).grownBy hg3 (fun k e _ => by cases e; rfl)) (fun g' e => by cases e; show ¬ g = w.heap.size; omega)
      clear hm3
      go_round
      case rel => exact ⟨j + 1, by go_num, by omega, O3.out, M3.out, ((hb.trans (BA.out.mono hsz)).grown hg3 (by simp; omega) (fun k hk => by cases hk; exact Nat.le_refl _))⟩
      case measure => simp [intOf]; omega
    · obtain rfl : j = L.length := by omega
      rw [HRE.out] at hm
      have MH := hide hm
      clear hm oT
      go_wp2
      go_ret
      exact ⟨rfl, MH.out, hb⟩

end Go.Proofs.Ytdddbfincmodjaa

namespace Go.Proofs.Ytdddbfincmodjaa
open Go.RowKit Go.Maps
set_option linter.unusedVariables false
set_option linter.unusedSimpArgs false

def tbl (L : List En) (k : Int) : List Rw := if ckB L 0 k = 0 then tb L k.toNat 16 else []
theorem zrow (W : World) : (zeroValue 57).run Try.prog W = .ok zRw.val W := by kernel_rfl
theorem ckB_zero {L : List En} {f t : Int} (h : ckB L f t = 0) : lg L 256 = 0 ∧ 0 ≤ f ∧ t ≤ L.length ∧ f ≤ t := by
  unfold ckB at h
  by_cases h1 : lg L 256 = 0
  · simp [h1] at h
    exact ⟨h1, by omega, by omega, by omega⟩
  · simp [h1] at h
set_option maxRecDepth 100000 in
set_option maxHeartbeats 1000000 in
theorem table_any (L : List En) (a : Option Addr) (c : Nat) (k : Int) (w : World) (h : SlY yE w a L.length c L) (hf : ∀ e ∈ L, e.fits) :
    Calls Try.prog 9 #[.slice a L.length c, .int .i64 k] w fun e w' => ∃ v, e = .returned (.tuple #[v, .int .i64 (ckB L 0 k)]) ∧ OwnY yR w.heap.size w' v (tbl L k) ∧ Below w.heap.size w w' := by
  have ck := check2_any L a c 0 k w h hf
  have hmx := h.max
  have hcp := h.cap
  unfold maxLen at hmx
  have H := hide h
  have HF := hide hf
  clear h hf
  by_cases hx : ckB L 0 k = 0
  · obtain ⟨h1, _, h3, h4⟩ := ckB_zero hx
    have hT : Hid (tbl L k = tb L k.toNat 16) := by show _ = _; simp [tbl, hx]
    have hl : L.length ≤ 256 := by have := (lg_zero h1).1; omega
    rw [hx] at ck ⊢
    obtain ⟨n, rfl⟩ : ∃ n : Nat, k = (n : Int) := ⟨k.toNat, by omega⟩
    rw [Int.toNat_natCast] at hT
    have hn : n ≤ L.length := by omega
    clear hx h1 h3 h4
    have HS := hide (tb_succ L n)
    have HLN := hide (tb_length_le L n)
    go_enter Try.func9, Try.ntmps9
    go_wp2_with (first
      | (go_at_call 27; refine ck.mono ?_; rintro e w1 ⟨rfl, b1⟩; have cl := last_any L a c n w1 (H.out.later b1) HF.out hl hn)
      | (go_at_call 28; refine cl.mono ?_; rintro e w2 ⟨rfl, m2, b2⟩; obtain ⟨m, hm, hlen⟩ := m2.len Try.underlying76; clear cl)
      | (at_make; go_must (refine makeY0 kR _ rfl (.const (.int .i64 0)) (.tmp 22) rfl m rfl rfl (by unfold maxLen; omega) (by show m * 64 ≤ _; omega) ?_; intro w3 o3 b3)))
    have hz1 := b1.size
    have hz2 := b2.size
    have hz3 := b3.size
    have hmn : w1.heap.size ≠ w2.heap.size := by have := m2.lt; omega
    have O3 := hide (o3.low (show w.heap.size ≤ w2.heap.size by omega))
    have M3 := hide (m2.later b3)
    have B3 := hide (b1.trans ((b2.mono hz1).trans (b3.mono (by omega))))
    have HG := hide (show w.heap.size ≤ w1.heap.size from hz1)
    generalize w1.heap.size = g1 at *
    generalize w2.heap.size = g2 at *
    clear o3 m2 b1 b2 b3 hlen ck hz2 hz3
    go_wp2
    go_loopw [24, 8] (fun i v wr => ∃ j : Nat, i = .int .i64 (j : Int) ∧ j ≤ 16 ∧ OwnY yR w.heap.size wr v (tb L n j) ∧ MapF wr g1 L.length (lF (rws L n)) ∧ Below w.heap.size w wr) (fun i _ _ => 16 - (intOf i).toNat)
    case atStart => exact ⟨0, rfl, by omega, O3.out, M3.out, B3.out⟩
    case round =>
      obtain ⟨j, rfl, hj, oT, hm, hb⟩ := hrel
      have hsz := hb.size
      have hmb := hm.lt
      by_cases hlt : j < 16
      · have hlk := hm.look true Try.underlying76 (zrow _) (s := (j : Int)) (wf_i64 (by omega))
        have hs := HS.out j
        have hln := HLN.out j
        unfold lF at hlk
        cases hlo : lo (rws L n) (j : Int) with
        | none =>
          rw [hlo] at hlk hs
          simp only [Option.map_none, Option.getD_none, Option.isSome_none, if_true, zRw, Rw.val, zR] at hlk hs
          have TS := hide hs
          have OT := hide oT
          have MH := hide hm
          have bA := hide ((Below.refl _ wr).alloc (Nat.le_refl _) (.cells #[.int .i64 0, .int .i64 0, .int .i64 0, .bool false, .int .i64 0, .int .i64 0, .string ByteArray.empty] 57))
          clear oT hm hlo hs
          go_wp2
          go_round
          case rel => exact ⟨j + 1, by go_num, by omega, by rw [TS.out]; exact OT.out.grow bA.out, MH.out.later bA.out, hb.trans (bA.out.mono hsz)⟩
          case measure => simp [intOf]; omega
        | some r =>
          rw [hlo] at hlk hs
          obtain ⟨C, N, P, d, s0, s1, s2⟩ := r
          simp only [Option.map_some, Option.getD_some, Option.isSome_some, if_true, Rw.val] at hlk hs
          have TS := hide hs
          have OT := hide oT
          have MH := hide hm
          have bA := hide ((Below.refl _ wr).alloc (Nat.le_refl _) (.cells #[.int .i64 C, .int .i64 N, .int .i64 P, .bool d, .int .i64 s0, .int .i64 s1, .string s2] 57))
          clear oT hm hlo hs
          go_wp2_with (at_builtin; go_must (refine appY kR _ rfl (.tmp 34) (.tmp 36) rfl w.heap.size (tb L n j) _ rfl (some ⟨wr.heap.size + 1, 0, none⟩) 1 1 rfl [⟨C, N, P, d, s0, s1, s2⟩] ?ys ((OT.out.alloc _).alloc _) (by simp; omega) (by unfold maxLen; omega) (by show (_ + 1) * 64 ≤ _; omega) ?yk))
          case ys =>
            have := sl_box (Y := yR) (wr.alloc (.cells #[.int .i64 C, .int .i64 N, .int .i64 P, .bool d, .int .i64 s0, .int .i64 s1, .string s2] 57)) ⟨C, N, P, d, s0, s1, s2⟩ 57
            rw [World.size_alloc] at this
            exact this
          case yk =>
            intro v5 w5 o5 g5 _
            have oA := ((OT.out.alloc (.cells #[.int .i64 C, .int .i64 N, .int .i64 P, .bool d, .int .i64 s0, .int .i64 s1, .string s2] 57)).alloc (.cells #[.int .i64 C, .int .i64 N, .int .i64 P, .bool d, .int .i64 s0, .int .i64 s1, .string s2] 57))
            have b5 := hide (oA.grown (hb.trans ((bA.out.mono hsz).trans ((Below.refl _ _).alloc (by simp; omega) _))) g5 (by simp; omega))
            have mA := ((MH.out.later bA.out).later ((Below.refl _ _).alloc (Nat.le_refl _) (.cells #[.int .i64 C, .int .i64 N, .int .i64 P, .bool d, .int .i64 s0, .int .i64 s1, .string s2] 57)))
            have m5 := hide (mA.grown g5 (mA.ne oA))
            have O5 := hide o5
            clear o5 g5 oA mA
            go_wp2
            go_round
            case rel => exact ⟨j + 1, by go_num, by omega, by rw [TS.out]; exact O5.out, m5.out, b5.out⟩
            case measure => simp [intOf]; omega
      · obtain rfl : j = 16 := by omega
        have OT := hide oT
        clear oT hm
        go_wp2
        go_ret2
        exact ⟨_, rfl, by rw [hT.out]; exact OT.out, hb⟩
  · have hT : Hid (tbl L k = []) := by show _ = _; simp [tbl, hx]
    generalize ckB L 0 k = x at *
    go_enter Try.func9, Try.ntmps9
    go_wp2_with (go_at_call 27; refine ck.mono ?_; rintro e w1 ⟨rfl, b1⟩)
    go_ret2
    exact ⟨_, rfl, by rw [hT.out]; exact OwnY.nil _ _ _, b1⟩

end Go.Proofs.Ytdddbfincmodjaa

namespace Go.Proofs.Ytdddbfincmodjaa
open Go.RowKit Go.Maps
set_option linter.unusedVariables false
set_option linter.unusedSimpArgs false

/-- What a request is to a log. -/
def vd (x : Option Rw) (n : Int) : Int × Rs := match x with
  | none => (1, zR)
  | some r => if r.n < n then (1, zR) else if n < r.n then (4, zR) else if r.d then (3, r.r) else (2, zR)
/-- The error of Ask. -/
def akE (L : List En) (k c n : Int) : Int := if ckB L 0 k ≠ 0 then ckB L 0 k else ckR c n
def akV (L : List En) (k c n : Int) : Int × Rs := if akE L k c n ≠ 0 then (0, zR) else vd (lo (rws L k.toNat) c) n
theorem ckR_zero {c n : Int} (h : ckR c n = 0) : 0 ≤ c ∧ c < 16 ∧ 1 ≤ n := by
  unfold ckR at h
  by_cases h1 : c < 0 ∨ 16 ≤ c
  · simp [h1] at h
  · by_cases h2 : n < 1
    · simp [h1, h2] at h
    · omega
theorem held3x {w2 : World} {p0 p1 p2 : Addr} {u0 u1 u2 : Value} {cs : Array Value} {T : TypeId} {i : Nat} {x : Value} (h : cs[i]? = some x) : ((((w2.setCell p0 u0).setCell p1 u1).setCell p2 u2).alloc (.cells cs T)).drew.cell? ⟨w2.heap.size, i, none⟩ = some x := by
  show World.cell? (World.alloc _ _) _ = _
  rw [World.cell?_alloc_at _ _ _ _ (by simp [World.setCell])]
  exact h
theorem box3 {w w1 : World} {x0 x1 x2 : Value} {T : TypeId} {B : Nat} (hb : Below B (w.alloc (.cells #[x0, x1, x2] T)) w1) (hB : w.heap.size < B) : (w1.cell? ⟨w.heap.size, 0, none⟩ = some x0 ∧ w1.cell? ⟨w.heap.size, 1, none⟩ = some x1 ∧ w1.cell? ⟨w.heap.size, 2, none⟩ = some x2) ∧ w1.frozen? ⟨w.heap.size, 0, none⟩ = false ∧ w1.frozen? ⟨w.heap.size, 1, none⟩ = false ∧ w1.frozen? ⟨w.heap.size, 2, none⟩ = false :=
  ⟨⟨(hb.cell (p := ⟨w.heap.size, 0, none⟩) hB).trans (by simp), (hb.cell (p := ⟨w.heap.size, 1, none⟩) hB).trans (by simp), (hb.cell (p := ⟨w.heap.size, 2, none⟩) hB).trans (by simp)⟩, (hb.frozen (p := ⟨w.heap.size, 0, none⟩) hB).trans (by simp), (hb.frozen (p := ⟨w.heap.size, 1, none⟩) hB).trans (by simp), (hb.frozen (p := ⟨w.heap.size, 2, none⟩) hB).trans (by simp)⟩
set_option maxRecDepth 100000 in
set_option maxHeartbeats 2000000 in
theorem ask_any (L : List En) (a : Option Addr) (c : Nat) (k C N : Int) (w : World) (h : SlY yE w a L.length c L) (hf : ∀ e ∈ L, e.fits) :
    Calls Try.prog 16 #[.slice a L.length c, .int .i64 k, .int .i64 C, .int .i64 N] w fun e w' => e = .returned (.tuple #[.int .i64 (akV L k C N).1, rV (akV L k C N).2, .int .i64 (akE L k C N)]) ∧ Below w.heap.size w w' := by
  have bB := (Below.refl w.heap.size w).alloc (Nat.le_refl _) (.cells #[.int .i64 0, .int .i64 0, .string ByteArray.empty] 43)
  have ck := check2_any L a c 0 k _ (h.later bB) hf
  have cr := fun W => req_any C N W
  have hmx := h.max
  have hcp := h.cap
  unfold maxLen at hmx
  have H := hide (h.later bB)
  have HF := hide hf
  clear h hf
  by_cases hx : ckB L 0 k = 0
  · obtain ⟨h1, _, h3, h4⟩ := ckB_zero hx
    have hl : L.length ≤ 256 := by have := (lg_zero h1).1; omega
    by_cases hy : ckR C N = 0
    · obtain ⟨y1, y2, y3⟩ := ckR_zero hy
      have hE : Hid (akE L k C N = 0) := by show _ = _; simp [akE, hx, hy]
      have hV : Hid (akV L k C N = vd (lo (rws L k.toNat) C) N) := by show _ = _; unfold akV; rw [hE.out]; simp
      rw [hx] at ck
      rw [hy] at cr
      obtain ⟨n, rfl⟩ : ∃ n : Nat, k = (n : Int) := ⟨k.toNat, by omega⟩
      rw [Int.toNat_natCast] at hV
      have hn : n ≤ L.length := by omega
      clear hx hy h1 h3 h4
      cases hlo : lo (rws L n) C with
      | none =>
        have hVV : Hid (akV L (n : Int) C N = (1, zR)) := by show _ = _; rw [hV.out, hlo]; rfl
        clear hV
        go_enter Try.func16, Try.ntmps16
        go_wp2_with (first
          | (go_at_call 27; refine ck.mono ?_; rintro e w1 ⟨rfl, b1⟩; have hz := b1.size; have cl := last_any L a c n w1 (H.out.later b1) HF.out hl hn)
          | (go_at_call 38; refine (cr _).mono ?_; rintro e w5 ⟨rfl, rfl⟩)
          | (go_at_call 28; refine cl.mono ?_; rintro e w2 ⟨rfl, m2, b2⟩; clear cl; have b3 := b1.trans (b2.mono hz); obtain ⟨⟨q0, q1, q2⟩, p0, p1, p2⟩ := box3 b3 (by simp); have bb1 : Below w.heap.size w w2 := bB.trans (b3.mono (by simp)); have hz2 := b3.size; simp only [World.size_alloc] at hz2; have hlk := m2.look true Try.underlying76 (zrow _) (s := C) (wf_i64 (by omega)); unfold lF at hlk; rw [hlo] at hlk; simp only [Option.map_none, Option.getD_none, Option.isSome_none, if_true, zRw, Rw.val, zR] at hlk; have hzz : w.heap.size < w2.heap.size := (by omega); have A := (fun ob => (Below.refl w2.heap.size w2).alloc (Nat.le_refl _) ob); have q0 := (fun ob => ((A ob).cell (p := ⟨w.heap.size, 0, none⟩) hzz).trans q0); have q1 := (fun ob => ((A ob).cell (p := ⟨w.heap.size, 1, none⟩) hzz).trans q1); have q2 := (fun ob => ((A ob).cell (p := ⟨w.heap.size, 2, none⟩) hzz).trans q2); have p0 := (fun ob => ((A ob).frozen (p := ⟨w.heap.size, 0, none⟩) hzz).trans p0); have p1 := (fun ob => ((A ob).frozen (p := ⟨w.heap.size, 1, none⟩) hzz).trans p1); have p2 := (fun ob => ((A ob).frozen (p := ⟨w.heap.size, 2, none⟩) hzz).trans p2); clear m2 b2 b3 b1 hz A))
        refine bodyPost_ret (v := .tuple #[.int .i64 1, rV zR, .int .i64 0]) (by simp [results, Try.results16, go_sem, rV, zR, *] <;> rfl) rfl ⟨by rw [hVV.out, hE.out], ?_⟩
        exact ((((bb1.setCell (p := ⟨w.heap.size, 0, none⟩) (Nat.le_refl _) _).setCell (p := ⟨w.heap.size, 1, none⟩) (Nat.le_refl _) _).setCell (p := ⟨w.heap.size, 2, none⟩) (Nat.le_refl _) _).alloc (by simp [World.setCell]; omega) _)
      | some r =>
        obtain ⟨C1, N1, P1, d1, s0, s1, s2⟩ := r
        by_cases hn1 : N1 < N
        · have hVV : Hid (akV L (n : Int) C N = (1, zR)) := by show _ = _; rw [hV.out, hlo]; simp [vd, hn1]
          clear hV
          go_enter Try.func16, Try.ntmps16
          go_wp2_with (first
            | (go_at_call 27; refine ck.mono ?_; rintro e w1 ⟨rfl, b1⟩; have hz := b1.size; have cl := last_any L a c n w1 (H.out.later b1) HF.out hl hn)
            | (go_at_call 38; refine (cr _).mono ?_; rintro e w5 ⟨rfl, rfl⟩)
            | (go_at_call 28; refine cl.mono ?_; rintro e w2 ⟨rfl, m2, b2⟩; clear cl; have b3 := b1.trans (b2.mono hz); obtain ⟨⟨q0, q1, q2⟩, p0, p1, p2⟩ := box3 b3 (by simp); have bb1 : Below w.heap.size w w2 := bB.trans (b3.mono (by simp)); have hz2 := b3.size; simp only [World.size_alloc] at hz2; have hlk := m2.look true Try.underlying76 (zrow _) (s := C) (wf_i64 (by omega)); unfold lF at hlk; rw [hlo] at hlk; simp only [Option.map_some, Option.getD_some, Option.isSome_some, if_true, Rw.val] at hlk; have hzz : w.heap.size < w2.heap.size := (by omega); have A := (fun ob => (Below.refl w2.heap.size w2).alloc (Nat.le_refl _) ob); have q0 := (fun ob => ((A ob).cell (p := ⟨w.heap.size, 0, none⟩) hzz).trans q0); have q1 := (fun ob => ((A ob).cell (p := ⟨w.heap.size, 1, none⟩) hzz).trans q1); have q2 := (fun ob => ((A ob).cell (p := ⟨w.heap.size, 2, none⟩) hzz).trans q2); have p0 := (fun ob => ((A ob).frozen (p := ⟨w.heap.size, 0, none⟩) hzz).trans p0); have p1 := (fun ob => ((A ob).frozen (p := ⟨w.heap.size, 1, none⟩) hzz).trans p1); have p2 := (fun ob => ((A ob).frozen (p := ⟨w.heap.size, 2, none⟩) hzz).trans p2); clear m2 b2 b3 b1 hz A))
          refine bodyPost_ret (v := .tuple #[.int .i64 1, rV zR, .int .i64 0]) (by simp [results, Try.results16, go_sem, rV, zR, *] <;> rfl) rfl ⟨by rw [hVV.out, hE.out], ?_⟩
          exact ((((bb1.setCell (p := ⟨w.heap.size, 0, none⟩) (Nat.le_refl _) _).setCell (p := ⟨w.heap.size, 1, none⟩) (Nat.le_refl _) _).setCell (p := ⟨w.heap.size, 2, none⟩) (Nat.le_refl _) _).alloc (by simp [World.setCell]; omega) _)
        · by_cases hn2 : N < N1
          · have hVV : Hid (akV L (n : Int) C N = (4, zR)) := by show _ = _; rw [hV.out, hlo]; simp [vd, hn1, hn2]
            clear hV
            go_enter Try.func16, Try.ntmps16
            go_wp2_with (first
              | (go_at_call 27; refine ck.mono ?_; rintro e w1 ⟨rfl, b1⟩; have hz := b1.size; have cl := last_any L a c n w1 (H.out.later b1) HF.out hl hn)
              | (go_at_call 38; refine (cr _).mono ?_; rintro e w5 ⟨rfl, rfl⟩)
              | (go_at_call 28; refine cl.mono ?_; rintro e w2 ⟨rfl, m2, b2⟩; clear cl; have b3 := b1.trans (b2.mono hz); obtain ⟨⟨q0, q1, q2⟩, p0, p1, p2⟩ := box3 b3 (by simp); have bb1 : Below w.heap.size w w2 := bB.trans (b3.mono (by simp)); have hz2 := b3.size; simp only [World.size_alloc] at hz2; have hlk := m2.look true Try.underlying76 (zrow _) (s := C) (wf_i64 (by omega)); unfold lF at hlk; rw [hlo] at hlk; simp only [Option.map_some, Option.getD_some, Option.isSome_some, if_true, Rw.val] at hlk; have hzz : w.heap.size < w2.heap.size := (by omega); have A := (fun ob => (Below.refl w2.heap.size w2).alloc (Nat.le_refl _) ob); have q0 := (fun ob => ((A ob).cell (p := ⟨w.heap.size, 0, none⟩) hzz).trans q0); have q1 := (fun ob => ((A ob).cell (p := ⟨w.heap.size, 1, none⟩) hzz).trans q1); have q2 := (fun ob => ((A ob).cell (p := ⟨w.heap.size, 2, none⟩) hzz).trans q2); have p0 := (fun ob => ((A ob).frozen (p := ⟨w.heap.size, 0, none⟩) hzz).trans p0); have p1 := (fun ob => ((A ob).frozen (p := ⟨w.heap.size, 1, none⟩) hzz).trans p1); have p2 := (fun ob => ((A ob).frozen (p := ⟨w.heap.size, 2, none⟩) hzz).trans p2); clear m2 b2 b3 b1 hz A))
            refine bodyPost_ret (v := .tuple #[.int .i64 4, rV zR, .int .i64 0]) (by simp [results, Try.results16, go_sem, rV, zR, *] <;> rfl) rfl ⟨by rw [hVV.out, hE.out], ?_⟩
            exact ((((bb1.setCell (p := ⟨w.heap.size, 0, none⟩) (Nat.le_refl _) _).setCell (p := ⟨w.heap.size, 1, none⟩) (Nat.le_refl _) _).setCell (p := ⟨w.heap.size, 2, none⟩) (Nat.le_refl _) _).alloc (by simp [World.setCell]; omega) _)
          · cases d1 with
            | true =>
              have hVV : Hid (akV L (n : Int) C N = (3, (s0, s1, s2))) := by show _ = _; rw [hV.out, hlo]; simp [vd, hn1, hn2]
              clear hV
              go_enter Try.func16, Try.ntmps16
              go_wp2_with (first
                | (go_at_call 27; refine ck.mono ?_; rintro e w1 ⟨rfl, b1⟩; have hz := b1.size; have cl := last_any L a c n w1 (H.out.later b1) HF.out hl hn)
                | (go_at_call 38; refine (cr _).mono ?_; rintro e w5 ⟨rfl, rfl⟩)
                | (go_at_call 28; refine cl.mono ?_; rintro e w2 ⟨rfl, m2, b2⟩; clear cl; have b3 := b1.trans (b2.mono hz); obtain ⟨⟨q0, q1, q2⟩, p0, p1, p2⟩ := box3 b3 (by simp); have bb1 : Below w.heap.size w w2 := bB.trans (b3.mono (by simp)); have hz2 := b3.size; simp only [World.size_alloc] at hz2; have hlk := m2.look true Try.underlying76 (zrow _) (s := C) (wf_i64 (by omega)); unfold lF at hlk; rw [hlo] at hlk; simp only [Option.map_some, Option.getD_some, Option.isSome_some, if_true, Rw.val] at hlk; have hzz : w.heap.size < w2.heap.size := (by omega); have A := (fun ob => (Below.refl w2.heap.size w2).alloc (Nat.le_refl _) ob); have q0 := (fun ob => ((A ob).cell (p := ⟨w.heap.size, 0, none⟩) hzz).trans q0); have q1 := (fun ob => ((A ob).cell (p := ⟨w.heap.size, 1, none⟩) hzz).trans q1); have q2 := (fun ob => ((A ob).cell (p := ⟨w.heap.size, 2, none⟩) hzz).trans q2); have p0 := (fun ob => ((A ob).frozen (p := ⟨w.heap.size, 0, none⟩) hzz).trans p0); have p1 := (fun ob => ((A ob).frozen (p := ⟨w.heap.size, 1, none⟩) hzz).trans p1); have p2 := (fun ob => ((A ob).frozen (p := ⟨w.heap.size, 2, none⟩) hzz).trans p2); clear m2 b2 b3 b1 hz A))
              have k4 : (w2.alloc (.cells #[.int .i64 C1, .int .i64 N1, .int .i64 P1, .bool true, .int .i64 s0, .int .i64 s1, .string s2] 57)).cell? ⟨w2.heap.size, 4, none⟩ = some (.int .i64 s0) := by simp
              have k5 : (w2.alloc (.cells #[.int .i64 C1, .int .i64 N1, .int .i64 P1, .bool true, .int .i64 s0, .int .i64 s1, .string s2] 57)).cell? ⟨w2.heap.size, 5, none⟩ = some (.int .i64 s1) := by simp
              have k6 : (w2.alloc (.cells #[.int .i64 C1, .int .i64 N1, .int .i64 P1, .bool true, .int .i64 s0, .int .i64 s1, .string s2] 57)).cell? ⟨w2.heap.size, 6, none⟩ = some (.string s2) := by simp
              have bbW : Below w.heap.size w (w2.alloc (.cells #[.int .i64 C1, .int .i64 N1, .int .i64 P1, .bool true, .int .i64 s0, .int .i64 s1, .string s2] 57)) := bb1.alloc (by omega) _
              have q0 := q0 (.cells #[.int .i64 C1, .int .i64 N1, .int .i64 P1, .bool true, .int .i64 s0, .int .i64 s1, .string s2] 57)
              have q1 := q1 (.cells #[.int .i64 C1, .int .i64 N1, .int .i64 P1, .bool true, .int .i64 s0, .int .i64 s1, .string s2] 57)
              have q2 := q2 (.cells #[.int .i64 C1, .int .i64 N1, .int .i64 P1, .bool true, .int .i64 s0, .int .i64 s1, .string s2] 57)
              have p0 := p0 (.cells #[.int .i64 C1, .int .i64 N1, .int .i64 P1, .bool true, .int .i64 s0, .int .i64 s1, .string s2] 57)
              have p1 := p1 (.cells #[.int .i64 C1, .int .i64 N1, .int .i64 P1, .bool true, .int .i64 s0, .int .i64 s1, .string s2] 57)
              have p2 := p2 (.cells #[.int .i64 C1, .int .i64 N1, .int .i64 P1, .bool true, .int .i64 s0, .int .i64 s1, .string s2] 57)
              have hne : w.heap.size ≠ w2.heap.size := by omega
              have hne2 : w2.heap.size ≠ w.heap.size := by omega
              clear hlk
              generalize (w2.alloc (.cells #[.int .i64 C1, .int .i64 N1, .int .i64 P1, .bool true, .int .i64 s0, .int .i64 s1, .string s2] 57)) = W at *
              generalize w2.heap.size = g7 at *
              go_region_held3 (fun v' => v'.cell? ⟨g7, 4, none⟩ = some (.int .i64 s0) ∧ v'.cell? ⟨g7, 5, none⟩ = some (.int .i64 s1) ∧ v'.cell? ⟨g7, 6, none⟩ = some (.string s2)) (first | go_keep | (exact ⟨by go_simp, by go_simp, by go_simp⟩) | go_simp) (fail)
              go_wp2
              refine bodyPost_ret (v := .tuple #[.int .i64 3, rV (s0, s1, s2), .int .i64 0]) (by simp [results, Try.results16, go_sem, rV, zR, *] <;> rfl) rfl ⟨by rw [hVV.out, hE.out], ?_⟩
              exact (((bbW.drew).setCell (p := ⟨w.heap.size, 0, none⟩) (Nat.le_refl _) _).setCell (p := ⟨w.heap.size, 1, none⟩) (Nat.le_refl _) _).setCell (p := ⟨w.heap.size, 2, none⟩) (Nat.le_refl _) _
            | false =>
              have hVV : Hid (akV L (n : Int) C N = (2, zR)) := by show _ = _; rw [hV.out, hlo]; simp [vd, hn1, hn2]
              clear hV
              go_enter Try.func16, Try.ntmps16
              go_wp2_with (first
                | (go_at_call 27; refine ck.mono ?_; rintro e w1 ⟨rfl, b1⟩; have hz := b1.size; have cl := last_any L a c n w1 (H.out.later b1) HF.out hl hn)
                | (go_at_call 38; refine (cr _).mono ?_; rintro e w5 ⟨rfl, rfl⟩)
                | (go_at_call 28; refine cl.mono ?_; rintro e w2 ⟨rfl, m2, b2⟩; clear cl; have b3 := b1.trans (b2.mono hz); obtain ⟨⟨q0, q1, q2⟩, p0, p1, p2⟩ := box3 b3 (by simp); have bb1 : Below w.heap.size w w2 := bB.trans (b3.mono (by simp)); have hz2 := b3.size; simp only [World.size_alloc] at hz2; have hlk := m2.look true Try.underlying76 (zrow _) (s := C) (wf_i64 (by omega)); unfold lF at hlk; rw [hlo] at hlk; simp only [Option.map_some, Option.getD_some, Option.isSome_some, if_true, Rw.val] at hlk; have hzz : w.heap.size < w2.heap.size := (by omega); have A := (fun ob => (Below.refl w2.heap.size w2).alloc (Nat.le_refl _) ob); have q0 := (fun ob => ((A ob).cell (p := ⟨w.heap.size, 0, none⟩) hzz).trans q0); have q1 := (fun ob => ((A ob).cell (p := ⟨w.heap.size, 1, none⟩) hzz).trans q1); have q2 := (fun ob => ((A ob).cell (p := ⟨w.heap.size, 2, none⟩) hzz).trans q2); have p0 := (fun ob => ((A ob).frozen (p := ⟨w.heap.size, 0, none⟩) hzz).trans p0); have p1 := (fun ob => ((A ob).frozen (p := ⟨w.heap.size, 1, none⟩) hzz).trans p1); have p2 := (fun ob => ((A ob).frozen (p := ⟨w.heap.size, 2, none⟩) hzz).trans p2); clear m2 b2 b3 b1 hz A))
              refine bodyPost_ret (v := .tuple #[.int .i64 2, rV zR, .int .i64 0]) (by simp [results, Try.results16, go_sem, rV, zR, *] <;> rfl) rfl ⟨by rw [hVV.out, hE.out], ?_⟩
              exact ((((bb1.setCell (p := ⟨w.heap.size, 0, none⟩) (Nat.le_refl _) _).setCell (p := ⟨w.heap.size, 1, none⟩) (Nat.le_refl _) _).setCell (p := ⟨w.heap.size, 2, none⟩) (Nat.le_refl _) _).alloc (by simp [World.setCell]; omega) _)
    · have hE : Hid (akE L k C N = ckR C N) := by show _ = _; simp [akE, hx]
      have hV : Hid (akV L k C N = (0, zR)) := by show _ = _; unfold akV; rw [hE.out]; simp [hy]
      rw [hx] at ck
      generalize ckR C N = x at *
      clear hx h1 h3 h4
      go_enter Try.func16, Try.ntmps16
      go_wp2_with (first
        | (go_at_call 27; refine ck.mono ?_; rintro e w1 ⟨rfl, b1⟩; have hz := b1.size; obtain ⟨⟨q0, q1, q2⟩, p0, p1, p2⟩ := box3 b1 (by simp); have bb1 : Below w.heap.size w w1 := bB.trans (b1.mono (by simp)))
        | (go_at_call 38; refine (cr _).mono ?_; rintro e w2 ⟨rfl, rfl⟩))
      refine bodyPost_ret (v := .tuple #[.int .i64 0, rV zR, .int .i64 x]) (by simp [results, Try.results16, go_sem, rV, zR, *] <;> rfl) rfl ⟨by rw [hV.out, hE.out], ?_⟩
      exact ((bb1.setCell (p := ⟨w.heap.size, 0, none⟩) (Nat.le_refl _) _).setCell (p := ⟨w.heap.size, 1, none⟩) (Nat.le_refl _) _).setCell (p := ⟨w.heap.size, 2, none⟩) (Nat.le_refl _) _
  · have hE : Hid (akE L k C N = ckB L 0 k) := by show _ = _; simp [akE, hx]
    have hV : Hid (akV L k C N = (0, zR)) := by show _ = _; unfold akV; rw [hE.out]; simp [hx]
    generalize ckB L 0 k = x at *
    go_enter Try.func16, Try.ntmps16
    go_wp2_with (go_at_call 27; refine ck.mono ?_; rintro e w1 ⟨rfl, b1⟩; have hz := b1.size; obtain ⟨⟨q0, q1, q2⟩, p0, p1, p2⟩ := box3 b1 (by simp); have bb1 : Below w.heap.size w w1 := bB.trans (b1.mono (by simp)))
    refine bodyPost_ret (v := .tuple #[.int .i64 0, rV zR, .int .i64 x]) (by simp [results, Try.results16, go_sem, rV, zR, *] <;> rfl) rfl ⟨by rw [hV.out, hE.out], ?_⟩
    exact ((bb1.setCell (p := ⟨w.heap.size, 0, none⟩) (Nat.le_refl _) _).setCell (p := ⟨w.heap.size, 1, none⟩) (Nat.le_refl _) _).setCell (p := ⟨w.heap.size, 2, none⟩) (Nat.le_refl _) _

end Go.Proofs.Ytdddbfincmodjaa

namespace Go.Proofs.Ytdddbfincmodjaa
open Go.RowKit Go.Maps
set_option linter.unusedVariables false
set_option linter.unusedSimpArgs false

theorem LieY.drop {α : Type} {Y : Lay α} {w : World} {q o : Nat} {l : List α} (h : LieY Y w q o l) (f : Nat) : LieY Y w q (o + f * Y.k) (l.drop f) := fun i x hx j u hu => by
  rw [List.getElem?_drop] at hx
  have := h _ _ hx j u hu
  rw [Nat.add_mul] at this
  rw [Nat.add_assoc o, ]
  exact this
def btw (L : List En) (f t : Int) : List Rw := if ckB L f t = 0 then ((rws L t.toNat).take t.toNat).drop f.toNat else []
set_option maxRecDepth 100000 in
set_option maxHeartbeats 1000000 in
theorem between_any (L : List En) (a : Option Addr) (c : Nat) (f t : Int) (w : World) (h : SlY yE w a L.length c L) (hf : ∀ e ∈ L, e.fits) :
    Calls Try.prog 18 #[.slice a L.length c, .int .i64 f, .int .i64 t] w fun e w' => ∃ a' n' c', e = .returned (.tuple #[.slice a' n' c', .int .i64 (ckB L f t)]) ∧ SlY yR w' a' n' c' (btw L f t) ∧ (∀ x, a' = some x → w.heap.size ≤ x.block) ∧ Below w.heap.size w w' := by
  have ck := check2_any L a c f t w h hf
  have hmx := h.max
  have hcp := h.cap
  unfold maxLen at hmx
  have H := hide h
  have HF := hide hf
  clear h hf
  by_cases hx : ckB L f t = 0
  · obtain ⟨h1, h2, h3, h4⟩ := ckB_zero hx
    have hT : Hid (btw L f t = ((rws L t.toNat).take t.toNat).drop f.toNat) := by show _ = _; simp [btw, hx]
    have hl : L.length ≤ 256 := by have := (lg_zero h1).1; omega
    rw [hx] at ck ⊢
    obtain ⟨n, rfl⟩ : ∃ n : Nat, t = (n : Int) := ⟨t.toNat, by omega⟩
    obtain ⟨m, rfl⟩ : ∃ m : Nat, f = (m : Int) := ⟨f.toNat, by omega⟩
    rw [Int.toNat_natCast, Int.toNat_natCast] at hT
    have hn : n ≤ L.length := by omega
    have hmn : m ≤ n := by omega
    clear hx h1 h3 h4 h2
    by_cases he : m = n
    · have he' := he.symm
      subst he'
      go_enter Try.func18, Try.ntmps18
      go_wp2_with (first
        | (go_at_call 27; refine ck.mono ?_; rintro e w1 ⟨rfl, b1⟩; have cr := rows_any (L.take n) a c n w1 (by have := (H.out.later b1).take n hn; rw [List.length_take, Nat.min_eq_left hn]; exact this) (fun e he => HF.out e (List.mem_of_mem_take he)) (by simp; omega) (by simp; omega); rw [List.length_take, Nat.min_eq_left hn, rws_take] at cr)
        | (go_at_call 39; refine cr.mono ?_; rintro e w2 ⟨g, rfl, o2, b2⟩; clear cr; have z1 := b1.size; have hg := o2.lenN.2; have OS := hide (o2.sl' kR); have HG := hide hg; have BB := hide (b1.trans (b2.mono z1)); clear o2 b1 b2 hg))
      go_ret2
      refine ⟨_, _, _, rfl, ⟨?_, Nat.le_refl _, by unfold maxLen; omega, (fun e => by cases e), fun x hx => .inl ?_⟩, fun x hx => ?_, BB.out⟩
      · rw [hT.out, List.length_drop, List.length_take]; omega
      · rw [hT.out, List.drop_of_length_le (by rw [List.length_take]; omega)]
      · cases hx; have := HG.out.1; show w.heap.size ≤ g; omega
    · have hlt : m < n := by omega
      go_enter Try.func18, Try.ntmps18
      go_wp2_with (first
        | (go_at_call 27; refine ck.mono ?_; rintro e w1 ⟨rfl, b1⟩; have cr := rows_any (L.take n) a c n w1 (by have := (H.out.later b1).take n hn; rw [List.length_take, Nat.min_eq_left hn]; exact this) (fun e he => HF.out e (List.mem_of_mem_take he)) (by simp; omega) (by simp; omega); rw [List.length_take, Nat.min_eq_left hn, rws_take] at cr)
        | (go_at_call 39; refine cr.mono ?_; rintro e w2 ⟨g, rfl, o2, b2⟩; clear cr; have z1 := b1.size; have hg := o2.lenN.2; have OS := hide (o2.sl' kR); have HG := hide hg; have BB := hide (b1.trans (b2.mono z1)); clear o2 b1 b2 hg))
      go_ret2
      have hln : ((rws L n).take n).length = n := by rw [List.length_take, rws_length]; omega
      refine ⟨_, _, _, rfl, ⟨?_, Nat.le_refl _, by unfold maxLen; omega, (fun e => by cases e), fun x hx => .inr ?_⟩, fun x hx => ?_, BB.out⟩
      · rw [hT.out, List.length_drop, hln]
      · cases hx
        obtain ⟨q, o, e, hq, hl⟩ := OS.out.place (by intro e; rw [e] at hln; simp at hln; omega)
        cases e
        refine ⟨g, m * 7, rfl, hq, ?_⟩
        rw [hT.out]
        have := hl.drop m
        rw [Nat.zero_add] at this
        exact this
      · cases hx; have := HG.out.1; show w.heap.size ≤ g; omega
  · have hT : Hid (btw L f t = []) := by show _ = _; simp [btw, hx]
    generalize ckB L f t = x at *
    go_enter Try.func18, Try.ntmps18
    go_wp2_with (go_at_call 27; refine ck.mono ?_; rintro e w1 ⟨rfl, b1⟩)
    go_ret2
    exact ⟨_, _, _, rfl, by rw [hT.out]; exact (OwnY.nil yR 0 _).sl' kR, (fun x hx => by cases hx), b1⟩

end Go.Proofs.Ytdddbfincmodjaa
