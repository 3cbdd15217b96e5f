import Derived.Test.YtegkkoggfjgkbaaAk
import Derived.Test.YtegkkoggfjgkbaaGAh
import Derived.Test.YtegkkoggfjgkbaaSm
import Derived.Test.YtegkkoggfjgkbaaGv
import Derived.Test.YtegkkoggfjgkbaaWr
import Derived.Test.YtegkkoggfjgkbaaGIa
import Derived.Test.YtegkkoggfjgkbaaRu
import Derived.Test.YtegkkoggfjgkbaaAl
import Derived.Test.YtegkkoggfjgkbaaOpn
import Derived.Test.YtegkkoggfjgkbaaSe
import Derived.Test.YtegkkoggfjgkbaaRf
import Derived.Test.YtegkkoggfjgkbaaWl
import Derived.Test.YtegkkoggfjgkbaaPr
import Derived.Test.YtegkkoggfjgkbaaRe
namespace Go.Proofs.Ytegkkoggfjgkbaa
open Go.RowKit Go.Maps
open Classical
set_option linter.unusedVariables false
set_option linter.unusedSimpArgs false

theorem fl_by : ∀ l : List Int, fl yBy l = Wi.bs l
  | [] => rfl
  | x :: r => by rw [fl, fl_by r]; rfl
theorem own_by {B : Nat} {w : World} {v : Value} {l : List Int} (h : Wi.Own B w v l) : OwnY yBy B w v l := by unfold OwnY; rw [fl_by]; exact h
theorem OwnY.wi {B : Nat} {w : World} {v : Value} {l : List Int} (h : OwnY yBy B w v l) : Wi.Own B w v l := by unfold OwnY at h; rw [fl_by] at h; exact h
theorem OwnY.hs {B : Nat} {w : World} {a : Option Addr} {n c : Nat} {l : List Int} (h : OwnY yBy B w (.slice a n c) l) (hb : ∀ z ∈ l, 0 ≤ z ∧ z < 256) : Wi.Hs w a n c l := by
  obtain ⟨a', n', c', hv, hs, _⟩ := h.wi.hs hb
  injection hv with h1 h2 h3
  subst h1 h2 h3
  exact hs
theorem SlY.hs {w : World} {a : Option Addr} {n c : Nat} {l : List Int} (h : SlY yBy w a n c l) (hb : ∀ z ∈ l, 0 ≤ z ∧ z < 256) : Wi.Hs w a n c l :=
  ⟨h.len, h.cap, fun x hx i hi => by
    rcases h.at_ x hx with rfl | ⟨q, o, rfl, _, hl⟩
    · simp at hi
    · have := hl i l[i] (List.getElem?_eq_getElem hi) 0 (.int .u8 l[i]) rfl
      rw [Addr.add_lit]
      rw [show o + i * yBy.k + 0 = o + i from congrArg (o + ·) (Nat.mul_one i)] at this
      rw [show l.getD i 0 = l[i] by simp [List.getD_eq_getElem?_getD, List.getElem?_eq_getElem hi]]
      exact this, fun hx => ⟨List.eq_nil_of_length_eq_zero (by rw [h.len]; exact (h.nil hx).1), (h.nil hx).2⟩, hb⟩
theorem Wi.Hs.sl {w : World} {a : Option Addr} {n c : Nat} {l : List Int} (h : Wi.Hs w a n c l) (hm : c ≤ maxLen) : SlY yBy w a n c l :=
  ⟨h.len, h.cap, hm, fun hx => ⟨by rw [← h.len, (h.nil hx).1]; rfl, (h.nil hx).2⟩, fun x hx => by
    cases l with
    | nil => exact .inl rfl
    | cons z r =>
      subst hx
      obtain ⟨b, o, rfl⟩ := Wi.Hs.flat h (by have := h.len; simp at this; omega)
      have h0 := h.row _ rfl 0 (by simp)
      have hlt := World.block_lt_of_cell? _ _ h0
      refine .inr ⟨b, o, rfl, by rw [Addr.add_lit] at hlt; exact hlt, fun i y hy j u hu => ?_⟩
      obtain ⟨hi, rfl⟩ := List.getElem?_eq_some_iff.1 hy
      have hj : j = 0 := by
        have := (List.getElem?_eq_some_iff.1 hu).1
        simp [yBy] at this
        exact this
      subst hj
      have hu' : Value.int .u8 (z :: r)[i] = u := by
        have := hu
        simp [yBy] at this
        exact this
      have h1 := h.row _ rfl i hi
      rw [Addr.add_lit, show (z :: r).getD i 0 = (z :: r)[i] by simp [List.getD_eq_getElem?_getD, List.getElem?_eq_getElem hi]] at h1
      rw [show o + i * yBy.k + 0 = o + i from congrArg (o + ·) (Nat.mul_one i), ← hu']
      exact h1⟩
theorem Wi.WOk.upd {w w' : World} {b k : Nat} {l : List Int} (h : Wi.WOk w b l) (u : Upd (· = k) w w') (hk : k < b) : Wi.WOk w' b l := by
  rcases h with ⟨e, h⟩ | ⟨q, g, n, c, h⟩
  · have lt := h.lt
    have hn : ¬ (b = k) := by omega
    exact .inl ⟨e, ⟨Nat.lt_of_lt_of_le lt u.size, (u.cell (p := ⟨b, 0, none⟩) lt hn).trans h.c0, (u.cell (p := ⟨b, 1, none⟩) lt hn).trans h.c1, (u.cell (p := ⟨b, 2, none⟩) lt hn).trans h.c2, (u.frozen (p := ⟨b, 0, none⟩) lt hn).trans h.f0, (u.frozen (p := ⟨b, 1, none⟩) lt hn).trans h.f1, (u.frozen (p := ⟨b, 2, none⟩) lt hn).trans h.f2⟩⟩
  · have hbq := h.lt
    have ltq := h.ltq
    have lt : b < w.heap.size := Nat.lt_trans hbq ltq
    have hn : ¬ (b = k) := by omega
    have hq : ¬ (q = k) := by omega
    have ho := own_by h.own
    exact .inr ⟨q, g, n, c, ⟨hbq, Nat.lt_of_lt_of_le ltq u.size, h.len, (u.cell (p := ⟨b, 0, none⟩) lt hn).trans h.c0, (u.cell (p := ⟨b, 1, none⟩) lt hn).trans h.c1, (u.cell (p := ⟨b, 2, none⟩) lt hn).trans h.c2, (u.frozen (p := ⟨b, 0, none⟩) lt hn).trans h.f0, (u.frozen (p := ⟨b, 1, none⟩) lt hn).trans h.f1, (u.frozen (p := ⟨b, 2, none⟩) lt hn).trans h.f2, (u.cell (p := ⟨q, 0, none⟩) ltq hq).trans h.cq, (u.frozen (p := ⟨q, 0, none⟩) ltq hq).trans h.fq, (ho.upd1 u (fun z hz e => by have := (ho.blk z hz).1; omega)).wi⟩⟩
set_option maxRecDepth 100000 in
set_option maxHeartbeats 2000000 in
theorem intactBy_any (b B : Nat) (va vb : Value) (La Lb : List (SV Int)) (w : World) (G : GY yBy zByB 0 (fun _ => .slice none 0 0) w b B va vb La Lb) (hD : La.map (·.D) = Lb.map (·.D)) (hby : ∀ x, x ∈ La → ∀ z, z ∈ x.D → 0 ≤ z ∧ z < 256) :
    Calls Try.prog 13 #[.pointer (some ⟨b, 0, none⟩)] w fun e w' => e = .returned (.bool true) ∧ ∃ n, w' = w.drewN n := by
  have d4' := G.ce 4 (by omega) (by omega) (by omega)
  have d2 := G.ce 2 (by omega) (by omega) (by omega)
  have d6 := G.ce 6 (by omega) (by omega) (by omega)
  have d8 := G.ce 8 (by omega) (by omega) (by omega)
  have d0 := G.ca
  have d1 := G.cb
  have hl : Lb.length = La.length := by
    have := congrArg List.length hD
    simpa using this.symm
  obtain ⟨aa, ea, rfl, m2, m2', pn, p2⟩ := G.oa.form
  obtain ⟨ab, eb, rfl, m3, m3', qn, p3⟩ := G.ob.form
  rw [hl] at d1 m3
  unfold maxLen at m2' m3'
  have HG := hide G
  have HBY := hide hby
  clear hby
  have HD := hide hD
  have HL := hide hl
  have P2 := hide p2
  have P3 := hide p3
  have N2 := hide pn
  have N3 := hide qn
  clear G hD hl p2 p3 pn qn
  generalize hn : La.length = n at *
  have HN := hide hn
  clear hn
  go_enter Try.func13, Try.ntmps13
  obtain ⟨w0, hw0⟩ : ∃ w0, w0 = w := ⟨_, rfl⟩
  subst hw0
  go_wp2_with fail
  go_loopw [3] (fun i ws => ∃ j m : Nat, i = .int .i64 (j : Int) ∧ j ≤ n ∧ ws = w0.drewN m) (fun i _ => n - (intOf i).toNat)
  case atStart => exact ⟨0, 0, rfl, Nat.zero_le _, rfl⟩
  case round =>
    obtain ⟨j, m, rfl, hj, hws⟩ := hrel
    have HW := hide hws
    have G2 := hide (HG.out.bel (show Below w0.heap.size w0 wr by rw [hws]; exact belN (Below.refl _ _) m))
    have d0 := G2.out.ca
    have d1 := G2.out.cb
    rw [HL.out] at d1
    clear hws
    by_cases hlt : j < n
    · obtain ⟨x, hx⟩ : ∃ x, La[j]? = some x := ⟨_, List.getElem?_eq_getElem (by rw [HN.out]; exact hlt)⟩
      obtain ⟨y, hy⟩ : ∃ y, Lb[j]? = some y := ⟨_, List.getElem?_eq_getElem (by rw [HL.out]; exact hlt)⟩
      have hxy : x.D = y.D := by
        have h1 := congrArg (fun l => l[j]?) HD.out
        simp only [List.getElem?_map, hx, hy, Option.map_some] at h1
        exact Option.some.inj h1
      cases aa with
      | none => have := (N2.out rfl).1; rw [this] at hx; simp at hx
      | some za =>
        cases ab with
        | none => have := (N3.out rfl).1; rw [this] at hy; simp at hy
        | some zb =>
          obtain ⟨g2, rfl, _, hg2⟩ := P2.out za rfl
          obtain ⟨g3, rfl, _, hg3⟩ := P3.out zb rfl
          have q2 := G2.out.oa.cell kzByB j x hx 0 _ rfl
          have q3 := G2.out.ob.cell kzByB j y hy 0 _ rfl
          have sx := (G2.out.da x (List.mem_of_getElem? hx)).hs (HBY.out x (List.mem_of_getElem? hx))
          have sy := (G2.out.db y (List.mem_of_getElem? hy)).hs (by rw [← hxy]; exact HBY.out x (List.mem_of_getElem? hx))
          have q2 : wr.cell? ⟨g2, j, none⟩ = some (.slice x.a x.D.length x.c) := by
            have := q2
            simp only [zByB, yS, Nat.mul_one, Nat.add_zero] at this
            exact this
          have q3 : wr.cell? ⟨g3, j, none⟩ = some (.slice y.a y.D.length y.c) := by
            have := q3
            simp only [zByB, yS, Nat.mul_one, Nat.add_zero] at this
            exact this
          rw [← hxy] at q3 sy
          have HH := fun k => hide (Wi.same_any x.a y.a x.D.length x.c x.D.length y.c x.D x.D (wr.drewN k) (sx.later (belN (Below.refl _ _) k)) (sy.later (belN (Below.refl _ _) k)))
          rw [decide_eq_true (rfl : x.D = x.D)] at HH
          clear sx sy hx hy hxy HG G2 P2 P3 HD HL HN N2 N3
          generalize x.D.length = lx at *
          generalize x.a = xa at *
          generalize y.a = ya at *
          generalize x.c = xc at *
          generalize y.c = yc at *
          go_wp2_with fail
          go_quiet ((go_at_call 15; exact Calls.quiet_of_same (HH _).out))
          go_wp2
          go_round
          case rel => exact ⟨j + 1, m + nq, by go_num, by omega, by rw [HW.out, World.drewN_drewN]⟩
          case measure => simp [intOf]; omega
    · obtain rfl : j = n := by omega
      have d2 := G2.out.ce 2 (by omega) (by omega) (by omega)
      have d4' := G2.out.ce 4 (by omega) (by omega) (by omega)
      have d6 := G2.out.ce 6 (by omega) (by omega) (by omega)
      have d8 := G2.out.ce 8 (by omega) (by omega) (by omega)
      have HW2 := HW
      clear HG G2 P2 P3 HD HL HN N2 N3 HBY d1 HW
      go_wp2_with fail
      go_loopw [4] (fun i ws => i = .int .i64 0 ∧ ws = wr) (fun _ _ => 0)
      case atStart => exact ⟨rfl, rfl⟩
      case round =>
        obtain ⟨rfl, e1⟩ := hrel
        subst e1
        go_wp2_with fail
        go_loopw [5] (fun i ws => i = .int .i64 0 ∧ ws = wr) (fun _ _ => 0)
        case atStart => exact ⟨rfl, rfl⟩
        case round =>
          obtain ⟨rfl, e1⟩ := hrel
          subst e1
          go_wp2_with fail
          go_loopw [6] (fun i ws => i = .int .i64 0 ∧ ws = wr) (fun _ _ => 0)
          case atStart => exact ⟨rfl, rfl⟩
          case round =>
            obtain ⟨rfl, e1⟩ := hrel
            subst e1
            go_wp2_with fail
            go_loopw [7] (fun i ws => i = .int .i64 0 ∧ ws = wr) (fun _ _ => 0)
            case atStart => exact ⟨rfl, rfl⟩
            case round =>
              obtain ⟨rfl, e1⟩ := hrel
              subst e1
              go_wp2
              go_ret
              exact ⟨rfl, m, HW2.out⟩

end Go.Proofs.Ytegkkoggfjgkbaa

namespace Go.Proofs.Ytegkkoggfjgkbaa
open Go.RowKit Go.Maps
open Classical
set_option linter.unusedVariables false
set_option linter.unusedSimpArgs false

theorem Upd.tr {S T : Nat → Prop} {a b c : World} (h : Upd S a b) (k : Upd T b c) (hs : ∀ i, i < a.heap.size → T i → S i) : Upd S a c :=
  ⟨k.os.trans h.os, k.tape.trans h.tape, k.output.trans h.output, Nat.le_trans h.size k.size, fun i hi hn => (k.block i (Nat.lt_of_lt_of_le hi h.size) (fun ht => hn (hs i hi ht))).trans (h.block i hi hn)⟩
section
variable {α : Type} {Y : Lay α} {Z : Lay (SV α)} {p : Nat} {E : Nat → Value} {w w' : World} {b B B' k : Nat} {va vb : Value} {La Lb : List (SV α)}
theorem GY.raise0 (G : GY Y Z p E w b B (.slice none 0 0) (.slice none 0 0) [] []) (hb : b < B') (hB : B' ≤ w.heap.size) : GY Y Z p E w b B' (.slice none 0 0) (.slice none 0 0) [] [] :=
  ⟨hb, hB, G.ca, G.cb, G.fa, G.fb, G.ce, OwnY.nil _ _ _, OwnY.nil _ _ _, G.ne, (fun x hx => by cases hx), (fun x hx => by cases hx)⟩
theorem GY.besides (G : GY Y Z p E w b B va vb La Lb) (u : Upd (· = k) w w') (hk : k ≠ b) (hB : k < B) : GY Y Z p E w' b B va vb La Lb := by
  have hlt : b < w.heap.size := Nat.lt_of_lt_of_le G.lt G.ltB
  have hn : ¬ (b = k) := fun e => hk e.symm
  have ho : ∀ {β : Type} {Y' : Lay β} {v : Value} {l : List β}, OwnY Y' B w v l → OwnY Y' B w' v l := fun h => h.upd1 u (fun g hg e => by have := (h.blk g hg).1; omega)
  exact ⟨G.lt, Nat.le_trans G.ltB u.size, (u.cell (p := ⟨b, p, none⟩) hlt hn).trans G.ca, (u.cell (p := ⟨b, p + 1, none⟩) hlt hn).trans G.cb, (u.frozen (p := ⟨b, p, none⟩) hlt hn).trans G.fa, (u.frozen (p := ⟨b, p + 1, none⟩) hlt hn).trans G.fb, fun i h0 h1 h2 => (u.cell (p := ⟨b, i, none⟩) hlt hn).trans (G.ce i h0 h1 h2), ho G.oa, ho G.ob, G.ne, fun x hx => ho (G.da x hx), fun x hx => ho (G.db x hx)⟩
end
/-- What Seal answers. -/
def sl (l : List Int) : List Int := if l.length ≤ 32756 then M.frame l else []
def se (l : List Int) : Int := if l.length ≤ 32756 then 0 else 11
theorem sl_byte (l : List Int) (h : ∀ z ∈ l, 0 ≤ z ∧ z < 256) : ∀ z ∈ sl l, 0 ≤ z ∧ z < 256 := by
  unfold sl
  split
  · exact M.frame_byte l h
  · simp
theorem sl_len (l : List Int) : (sl l).length ≤ 32768 := by
  unfold sl
  split
  · rw [M.frame_length]; omega
  · simp
theorem own_form {B : Nat} {w : World} {v : Value} {l : List Int} (h : Wi.Own B w v l) : ∃ a c, v = .slice a l.length c ∧ OwnY yBy B w (.slice a l.length c) l := by
  obtain ⟨a, c, rfl, _⟩ := (own_by h).form
  exact ⟨a, c, rfl, own_by h⟩
theorem seal1_any (a : Option Addr) (n c : Nat) (l : List Int) (w : World) (hh : Wi.Hs w a n c l) :
    Calls Try.prog 8 #[.slice a n c] w fun e w' => ∃ a' c', e = .returned (.tuple #[.slice a' (sl l).length c', .int .i64 (se l)]) ∧ OwnY yBy w.heap.size w' (.slice a' (sl l).length c') (sl l) ∧ Below w.heap.size w w' := by
  unfold sl se
  rw [hh.len]
  by_cases h : n ≤ 32756
  · rw [if_pos h, if_pos h]
    refine (Wi.seal_ok a n c l w hh h).mono ?_
    rintro e w' ⟨v, rfl, o, _, b⟩
    obtain ⟨a', c', rfl, o'⟩ := own_form o
    exact ⟨a', c', rfl, o', b⟩
  · rw [if_neg h, if_neg h]
    refine (Wi.seal_long a n c w (by omega)).mono ?_
    rintro e w' ⟨rfl, rfl⟩
    exact ⟨none, 0, rfl, OwnY.nil _ _ _, Below.refl _ _⟩
theorem refseal1_any (a : Option Addr) (n c : Nat) (l : List Int) (w : World) (hh : Wi.Hs w a n c l) :
    Calls Try.prog 6 #[.slice a n c] w fun e w' => ∃ a' c', e = .returned (.tuple #[.slice a' (sl l).length c', .int .i64 (se l)]) ∧ OwnY yBy w.heap.size w' (.slice a' (sl l).length c') (sl l) ∧ Below w.heap.size w w' := by
  unfold sl se
  rw [hh.len]
  by_cases h : n ≤ 32756
  · rw [if_pos h, if_pos h]
    refine (Wi.refseal_ok a n c l w hh h).mono ?_
    rintro e w' ⟨v, rfl, o, _, b⟩
    obtain ⟨a', c', rfl, o'⟩ := own_form o
    exact ⟨a', c', rfl, o', b⟩
  · rw [if_neg h, if_neg h]
    refine (Wi.refseal_long a n c w (by omega)).mono ?_
    rintro e w' ⟨rfl, rfl⟩
    exact ⟨none, 0, rfl, OwnY.nil _ _ _, Below.refl _ _⟩
theorem open1_any (a : Option Addr) (n c : Nat) (f : List Int) (w : World) (hh : Wi.Hs w a n c f) :
    Calls Try.prog 9 #[.slice a n c] w fun e w' => ∃ a' c', e = .returned (.tuple #[.slice a' (Wi.opBody f).length c', .int .i64 (Wi.opErr f)]) ∧ OwnY yBy w.heap.size w' (.slice a' (Wi.opBody f).length c') (Wi.opBody f) ∧ Below w.heap.size w w' := by
  refine (Wi.open_any a n c f w hh).mono ?_
  rintro e w' ⟨v, rfl, o, b⟩
  obtain ⟨a', c', rfl, o'⟩ := own_form o
  exact ⟨a', c', rfl, o', b⟩
theorem opBody_le (f : List Int) : (Wi.opBody f).length ≤ f.length := by
  unfold Wi.opBody
  split
  · simp; omega
  · simp
theorem bytes1_any (b : Nat) (l : List Int) (w : World) (h : Wi.WOk w b l) (hl : l.length ≤ 140737488355328) :
    Calls Try.prog 10 #[.pointer (some ⟨b, 0, none⟩)] w fun e w' => ∃ a' c', e = .returned (.tuple #[.slice a' l.length c', .int .i64 0]) ∧ OwnY yBy w.heap.size w' (.slice a' l.length c') l ∧ Below w.heap.size w w' := by
  refine (Wi.bytes_any b l w h hl).mono ?_
  rintro e w' ⟨v, rfl, o, b⟩
  obtain ⟨a', c', rfl, o'⟩ := own_form o
  exact ⟨a', c', rfl, o', b⟩
set_option maxRecDepth 100000 in
/-- NewReader, and where its bytes lie. -/
theorem newreader1_any (a : Option Addr) (n c : Nat) (l : List Int) (w : World) (h : Wi.Hs w a n c l) (hm : n ≤ 140737488355328) :
    Calls Try.prog 17 #[.slice a n c] w fun e w' => ∃ b a' c', e = .returned (.pointer (some ⟨b, 0, none⟩)) ∧ Wi.RSt w' b a' n c' l 0 0 ∧ w.heap.size ≤ b ∧ (∀ x, a' = some x → w.heap.size ≤ x.block) ∧ Below w.heap.size w w' := by
  have hby := h.byte
  have hln := h.len
  go_enter Try.func17, Try.ntmps17
  go_wp2_with fail
  refine (Wi.clone_hs a n c l w h hm).mono ?_
  clear h
  rintro e w1 ⟨v, rfl, ho, _, hb⟩
  have hoy := own_by ho
  obtain ⟨a', n', c', rfl, h2, h3, h4⟩ := ho.place hby
  have hnn : n' = n := by rw [← h2.len, hln]
  subst hnn
  clear ho hln
  go_wp2
  go_ret
  refine ⟨w1.heap.size, a', c', rfl, ⟨by simp, ?_, ?_, ?_, ?_, ?_, ?_, h2.later ((Below.refl _ _).alloc (Nat.le_refl _) _), h3, ?_, Nat.zero_le _⟩, hb.size, fun x hx => ?_, hb.alloc hb.size _⟩
  case refine_8 =>
    obtain ⟨g, h5, h6, h7⟩ := h4 x hx
    subst hx h5
    exact (hoy.blk g rfl).1
  all_goals first | (intro x hx; obtain ⟨g, h5, h6, h7⟩ := h4 x hx; exact ⟨g, h5, by omega⟩) | simp
theorem Wi.RSt.upd1 {S : Nat → Prop} {w w' : World} {b : Nat} {a : Option Addr} {n c : Nat} {l : List Int} {p : Nat} {e : Int} (h : Wi.RSt w b a n c l p e) (u : Upd S w w') (hb : ¬ S b) (ha : ∀ x, a = some x → ¬ S x.block) : Wi.RSt w' b a n c l p e :=
  ⟨Nat.lt_of_lt_of_le h.lt u.size, (u.cell (p := ⟨b, 0, none⟩) h.lt hb).trans h.c0, (u.cell (p := ⟨b, 1, none⟩) h.lt hb).trans h.c1, (u.cell (p := ⟨b, 2, none⟩) h.lt hb).trans h.c2, (u.cell (p := ⟨b, 3, none⟩) h.lt hb).trans h.c3, (u.frozen (p := ⟨b, 2, none⟩) h.lt hb).trans h.f2, (u.frozen (p := ⟨b, 3, none⟩) h.lt hb).trans h.f3,
    (((h.hs.sl h.cmax).upd u (fun x hx _ => ha x hx)).hs h.hs.byte), h.cmax, h.ne, h.le⟩
theorem xor85_byte (x : Int) (h0 : 0 ≤ x) (h1 : x < 256) : 0 ≤ bits .xor .u8 x 85 ∧ bits .xor .u8 x 85 < 256 := by
  rw [u8_xor x 85 h0 h1 (by omega) (by omega)]
  have : x.toNat ^^^ (85 : Int).toNat < 2 ^ 8 := Nat.xor_lt_two_pow (by omega) (by decide)
  omega
theorem str_size (l : List Int) : (strOfNums l).size = l.length := by
  show (strOfNums l).data.size = _
  rw [← Array.length_toList, strOfNums_data]
  simp
theorem text_len (l : List Int) (h : l.length < 2 ^ 64) : (M.form l.length ++ l).length ≤ l.length + 9 := by
  rw [List.length_append, M.form_length]
  have := M.nb_le l.length h
  omega

end Go.Proofs.Ytegkkoggfjgkbaa

namespace Go.Proofs.Ytegkkoggfjgkbaa
open Go.RowKit Go.Maps
open Classical
set_option linter.unusedVariables false
set_option linter.unusedSimpArgs false

/-- A text and its length, as they are laid down. -/
def tx (l : List Int) : List Int := M.form l.length ++ l
theorem tx_len (l : List Int) (h : l.length ≤ 140737488351232) : 0 < (tx l).length ∧ (tx l).length ≤ l.length + 9 := by
  refine ⟨?_, text_len l (by omega)⟩
  unfold tx
  rw [List.length_append, M.form_length]
  omega
theorem tx_byte (l : List Int) (hl : l.length ≤ 140737488351232) (h : ∀ z ∈ l, 0 ≤ z ∧ z < 256) : ∀ z ∈ tx l, 0 ≤ z ∧ z < 256 := fun z hz => by
  rcases List.mem_append.1 hz with hz | hz
  · exact M.form_byte l.length (by omega) z hz
  · exact h z hz
theorem by90 (l : List Int) (h : ∀ z ∈ l, 0 ≤ z ∧ z < 256) : ∀ z ∈ l ++ [90], 0 ≤ z ∧ z < 256 := fun z hz => by
  rcases List.mem_append.1 hz with hz | hz
  · exact h z hz
  · simp at hz
    subst hz
    omega
theorem num1_any (E : Int) (w : World) : Calls Try.prog 20 #[.int .i64 E] w fun e w' => e = .returned (.int .i64 E) ∧ w' = w := by
  go_enter Try.func20, Try.ntmps20
  go_wp2
  go_ret
  exact ⟨rfl, rfl⟩
/-- Text of a new Writer. -/
theorem wtext1_any (b : Nat) (l : List Int) (w : World) (h : Wi.WOk w b []) (hl : l.length ≤ 140737488351232) (hb : ∀ z ∈ l, 0 ≤ z ∧ z < 256) :
    Calls Try.prog 7 #[.pointer (some ⟨b, 0, none⟩), .string (strOfNums l), .int .i64 (l.length : Int)] w fun e w' => e = .returned (.tuple #[]) ∧ Wi.WOk w' b (tx l) ∧ Below b w w' := by
  refine (Wi.text_ok b b [] (strOfNums l) l.length w (Nat.le_refl _) h (by rw [str_size]; exact Nat.le_refl _) (by rw [str_size]; simp; omega)).mono ?_
  rintro e w' ⟨rfl, h1, h2⟩
  refine ⟨rfl, ?_, h2⟩
  rw [str_size, Wi.sb_nums l hb, List.nil_append] at h1
  exact h1
/-- The document's Write of one text. -/
theorem refwrite1_any (l : List Int) (w : World) (hl : l.length ≤ 140737488351232) (hb : ∀ z ∈ l, 0 ≤ z ∧ z < 256) :
    Calls Try.prog 14 #[.slice (some ⟨w.heap.size, 0, none⟩) 1 1] (w.alloc (.cells #[.int .i64 3, .int .u64 0, .int .i64 0, .int .i64 (l.length : Int), .string (strOfNums l)] 54)) fun e w' => ∃ a' c', e = .returned (.tuple #[.slice a' (tx l).length c', .int .i64 0]) ∧ OwnY yBy w.heap.size w' (.slice a' (tx l).length c') (tx l) ∧ Below w.heap.size w w' := by
  have hy : Wi.Pt.bytes ⟨3, 0, 0, (l.length : Int), strOfNums l⟩ = tx l := by
    show Wi.ptBytes 3 0 0 (strOfNums l) = _
    unfold Wi.ptBytes
    rw [if_neg (by omega), if_neg (by omega), str_size, Wi.sb_nums l hb]
    rfl
  have he : Wi.Pt.err ⟨3, 0, 0, (l.length : Int), strOfNums l⟩ = 0 := by
    show Wi.ptErr 3 0 (l.length : Int) (strOfNums l) = 0
    unfold Wi.ptErr
    rw [if_neg (by omega), if_neg (by omega), if_neg (by omega), if_neg (by omega), if_neg (by rw [str_size]; omega)]
  have hf : Wi.firstErr [⟨3, 0, 0, (l.length : Int), strOfNums l⟩] = 0 := by
    show (if Wi.Pt.err ⟨3, 0, 0, (l.length : Int), strOfNums l⟩ = 0 then Wi.firstErr [] else _) = 0
    rw [if_pos he]
    rfl
  have ha : Wi.allBytes [⟨3, 0, 0, (l.length : Int), strOfNums l⟩] = tx l := by
    show Wi.Pt.bytes _ ++ [] = _
    rw [List.append_nil]
    exact hy
  have hw : Wi.wOut [⟨3, 0, 0, (l.length : Int), strOfNums l⟩] = tx l := by unfold Wi.wOut; rw [if_pos hf]; exact ha
  have ba : Below w.heap.size w (w.alloc (.cells #[.int .i64 3, .int .u64 0, .int .i64 0, .int .i64 (l.length : Int), .string (strOfNums l)] 54)) := (Below.refl _ _).alloc (Nat.le_refl _) _
  have hx := tx_len l hl
  refine (Wi.refwrite_any [⟨3, 0, 0, (l.length : Int), strOfNums l⟩] (some ⟨w.heap.size, 0, none⟩) 1 1 _ (fun i hi => ?_) rfl (Nat.le_refl _) (by omega) (by rw [ha]; omega) (fun k hk => ?_)).mono ?_
  · have hi0 : i = 0 := by simp at hi; exact hi
    subst hi0
    refine ⟨⟨?_, ?_, ?_, ?_, ?_, ?_⟩, w.heap.size, 0, rfl, ?_⟩
    all_goals first | (simp; done) | (simp; omega)
  · have hk0 : k = 0 := by simp at hk; exact hk
    subst hk0
    show (0 : Nat) + 9 + (strOfNums l).size ≤ _
    rw [str_size]
    omega
  · rintro e w' ⟨v, rfl, o, b⟩
    rw [hw] at o
    rw [hf]
    obtain ⟨a', c', rfl, o'⟩ := own_form o
    exact ⟨a', c', rfl, o'.low (by simp), ba.trans (b.mono (by simp))⟩
/-- The text is read back. -/
theorem rtext1_any (r : Nat) (a : Option Addr) (c : Nat) (l : List Int) (w : World) (hl : l.length ≤ 140737488351232) (h : Wi.RSt w r a (tx l).length c (tx l) 0 0) :
    Calls Try.prog 19 #[.pointer (some ⟨r, 0, none⟩), .int .i64 (l.length : Int)] w fun e w' => e = .returned (.string (strOfNums l)) ∧ Wi.RSt w' r a (tx l).length c (tx l) (tx l).length 0 ∧ Upd (· = r) w w' := by
  obtain ⟨q1, q2, q3⟩ := Wi.tt_read l (l.length : Int) (by omega) (by omega) []
  rw [List.append_nil] at q1 q2 q3
  refine (Wi.ru_text r a (tx l).length c (tx l) 0 0 (l.length : Int) (by omega) w h).mono ?_
  rintro e w' ⟨rfl, h1, h2⟩
  have e1 : (tx l).drop 0 = M.form l.length ++ l := rfl
  rw [e1, q2, Wi.selL_ok]
  rw [e1, q1, q3, Wi.sel_ok, Wi.selE_ok, Nat.zero_add] at h1
  exact ⟨rfl, h1, ⟨h2.bel.os, h2.bel.tape, h2.bel.output, Nat.le_of_eq h2.same.symm, fun i _ hi => h2.block i hi⟩⟩
theorem rend1_any (r : Nat) (a : Option Addr) (c : Nat) (l : List Int) (w : World) (h : Wi.RSt w r a l.length c l l.length 0) :
    Calls Try.prog 21 #[.pointer (some ⟨r, 0, none⟩)] w fun e w' => e = .returned (.int .i64 0) ∧ Below w.heap.size w w' := by
  refine (Wi.rd_end r a l.length c l l.length 0 w h).mono ?_
  rintro e w' ⟨rfl, k, rfl⟩
  refine ⟨?_, belN (Below.refl _ _) k⟩
  unfold Wi.endErr
  rw [if_pos rfl, if_neg (by omega)]

end Go.Proofs.Ytegkkoggfjgkbaa
