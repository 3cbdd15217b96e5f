import Derived.ChangeOld
import Derived.ProofKit
import Derived.OpenShut
import Derived.Deep.SlicePairs
import Derived.SizedLaws
import Derived.ChangeArms
import Derived.Test.YtjabbplfbjaenaaA5
set_option maxRecDepth 100000
set_option linter.unusedVariables false
set_option linter.unusedSimpArgs false
namespace Go.Proofs.Ytjabbplfbjaenaa
open Go.RowKit
theorem gv_take_succ {D : List Cl} {k : Nat} {d : Cl} {s : Int} (hd : D[k]? = some d) (h : gv (D.take k) s = none) : gv (D.take (k + 1)) s = if d.1 = s then some d.2 else none := by
  have e : D.take (k + 1) = D.take k ++ [d] := by rw [List.take_add_one, hd]; rfl
  rw [e]
  unfold gv at h ⊢
  rw [List.find?_append]
  cases hf : (D.take k).find? (fun p => p.1 == s) with
  | some x => simp [hf] at h
  | none => by_cases hc : d.1 = s <;> simp [hc]
theorem gv_mono {D : List Cl} {k : Nat} {s : Int} {v : ByteArray} (h : gv (D.take k) s = some v) : gv D s = some v := by
  have e : D = D.take k ++ D.drop k := (List.take_append_drop k D).symm
  rw [e]
  unfold gv at h ⊢
  rw [List.find?_append]
  cases hf : (D.take k).find? (fun p => p.1 == s) with
  | some x => simpa [hf] using h
  | none => simp [hf] at h
set_option maxHeartbeats 1000000 in
theorem refget_any (D : List Cl) (a : Option Addr) (c : Nat) (s : Int) (w : World) (h : SlC w (.slice a D.length c) D a c) :
    Calls Try.prog 39 #[.slice a D.length c, .int .i64 s] w fun e w' => e = .returned (.tuple #[.string ((gv D s).getD ByteArray.empty), .bool (gv D s).isSome]) ∧ w' = w := by
  have hmx := h.max
  have hcap := h.cap
  unfold maxLen at hmx
  have hh := hide h
  clear h
  go_enter Try.func39, Try.ntmps39
  go_wp2
  go_loopw [6] (fun i wr => ∃ k : Nat, i = .int .i64 (k : Int) ∧ k ≤ D.length ∧ gv (D.take k) s = none ∧ wr = w) (fun i _ => D.length - (intOf i).toNat)
  case atStart => exact ⟨0, rfl, Nat.zero_le _, rfl, rfl⟩
  case round =>
    obtain ⟨k, rfl, hk, hn, rfl⟩ := hrel
    by_cases hlt : k < D.length
    · have hg : D[k]? = some D[k] := List.getElem?_eq_getElem hlt
      have hne : D ≠ [] := by rintro rfl; simp at hlt
      have hst := gv_take_succ hg hn
      have hmo := fun v' => gv_mono (D := D) (k := k + 1) (s := s) (v := v')
      obtain ⟨q, o, rfl, hq, hl⟩ := hh.out.place hne
      obtain ⟨e0, e1⟩ := hl k _ hg
      clear hl hg hn
      generalize D[k] = p at *
      obtain ⟨s', v'⟩ := p
      dsimp only at e0 e1 hst
      by_cases hs : s' = s
      · subst hs
        have hr : gv D s' = some v' := hmo v' (by rw [hst]; simp)
        have hrh := hide hr
        clear hst hmo hr
        go_wp2
        go_ret2
        exact ⟨by rw [hrh.out]; rfl, rfl⟩
      · have hb : (s' == s) = false := by simp [hs]
        rw [if_neg hs] at hst
        have hsh := hide hst
        clear hst hmo
        go_wp2
        go_round
        case rel => exact ⟨k + 1, by go_num, by omega, hsh.out, by first | rfl | trivial⟩
        case measure => simp [intOf]; omega
    · rw [List.take_of_length_le (by omega)] at hn
      have hnh := hide hn
      clear hn
      go_wp2
      go_ret2
      exact ⟨by rw [hnh.out]; rfl, rfl⟩
theorem ins_none {c : Cl} : ∀ {L : List Cl}, (∀ p ∈ L, ¬ c.1 < p.1) → ins c L = L ++ [c]
  | [], _ => rfl
  | y :: r, h => by
    simp only [ins, h y (by simp), if_false, List.cons_append]
    rw [ins_none (fun p hp => h p (by simp [hp]))]
theorem ins_hit {c y : Cl} : ∀ {L : List Cl}, (∀ p ∈ L, ¬ c.1 < p.1) → c.1 < y.1 → ins c (L ++ [y]) = L ++ [c] ++ [y]
  | [], _, hy => by simp [ins, hy]
  | x :: r, h, hy => by
    simp only [ins, List.cons_append, h x (by simp), if_false]
    rw [ins_hit (fun p hp => h p (by simp [hp])) hy]
theorem ins_done {c y : Cl} : ∀ {L : List Cl}, (∃ p ∈ L, c.1 < p.1) → ins c (L ++ [y]) = ins c L ++ [y]
  | [], h => by simp at h
  | x :: r, h => by
    by_cases hx : c.1 < x.1
    · simp [ins, hx]
    · simp only [ins, List.cons_append, hx, if_false]
      rw [ins_done]
      obtain ⟨p, hp, hc⟩ := h
      rcases List.mem_cons.1 hp with rfl | hp
      · exact absurd hc hx
      · exact ⟨p, hp, hc⟩
theorem OwnC.grow {B : Nat} {w w' : World} {v : Value} {l : List Cl} (h : OwnC B w v l) (hb : Below w.heap.size w w') : OwnC B w' v l :=
  h.bel hb (Nat.le_refl _)
def At2 (w : World) (g : Nat) (c : Cl) : Prop := w.cell? ⟨g, 0, none⟩ = some (.int .i64 c.1) ∧ w.cell? ⟨g, 1, none⟩ = some (.string c.2)
theorem At2.new (w : World) (c : Cl) (T : TypeId) : At2 (w.alloc (.cells #[.int .i64 c.1, .string c.2] T)) w.heap.size c := by
  refine ⟨?_, ?_⟩
  all_goals go_simp
theorem At2.on {w w' : World} {g : Nat} {c : Cl} (h : At2 w g c) {B : Nat} (hb : Below B w w') (hg : g < B) : At2 w' g c :=
  ⟨(hb.cell (p := ⟨g, 0, none⟩) hg).trans h.1, (hb.cell (p := ⟨g, 1, none⟩) hg).trans h.2⟩
set_option maxHeartbeats 1000000 in
theorem refput_any (D : List Cl) (a : Option Addr) (cp : Nat) (c : Cl) (w : World) (h : SlC w (.slice a D.length cp) D a cp) (hl : D.length ≤ 1024) :
    Calls Try.prog 40 #[.slice a D.length cp, .agg #[.int .i64 c.1, .string c.2]] w fun e w' => ∃ v, e = .returned v ∧ OwnC w.heap.size w' v (ins c D) ∧ Below w.heap.size w w' := by
  have hmx := h.max
  have hcap := h.cap
  unfold maxLen at hmx
  obtain ⟨s, v⟩ := c
  dsimp only
  obtain ⟨w1, hw1⟩ : ∃ w1, w.alloc (.cells #[.int .i64 s, .string v] 111) = w1 := ⟨_, rfl⟩
  have bw : Below w.heap.size w w1 := by rw [← hw1]; exact (Below.refl _ w).alloc (Nat.le_refl _) _
  have s1 : w1.heap.size = w.heap.size + 1 := by rw [← hw1]; simp
  have C1 : At2 w1 w.heap.size (s, v) := by rw [← hw1]; exact At2.new w (s, v) _
  have hh := hide (h.later bw)
  have hCh := hide C1
  have hs1 := hide s1
  clear h C1 s1
  go_enter Try.func40, Try.ntmps40
  go_wp2
  clear hw1
  go_loopw [7, 6, 5] (fun i d u wr => ∃ (k : Nat) (dn : Bool), i = .int .i64 (k : Int) ∧ d = .bool dn ∧ k ≤ D.length ∧ (dn = false → ∀ p ∈ D.take k, ¬ s < p.1) ∧ (dn = true → ∃ p ∈ D.take k, s < p.1) ∧ OwnC w1.heap.size wr u (if dn then ins (s, v) (D.take k) else D.take k) ∧ Below w1.heap.size w1 wr) (fun i _ _ _ => D.length - (intOf i).toNat)
  case atStart => exact ⟨0, false, rfl, rfl, Nat.zero_le _, by simp, by simp, OwnC.nil _ _, Below.refl _ _⟩
  case round =>
    obtain ⟨k, dn, rfl, rfl, hk, hf, ht, ho, hb⟩ := hrel
    have hsz := hb.size
    obtain ⟨e3, e4⟩ := hCh.out.on hb (by have := hs1.out; omega)
    dsimp only at e3 e4
    have hfh := hide hf
    have hth := hide ht
    clear hf ht
    by_cases hlt : k < D.length
    · have hg : D[k]? = some D[k] := List.getElem?_eq_getElem hlt
      have hne : D ≠ [] := by rintro rfl; simp at hlt
      have htk : D.take (k + 1) = D.take k ++ [D[k]] := by rw [List.take_add_one, hg]; rfl
      obtain ⟨q, o, rfl, hq, hl⟩ := (hh.out.later hb).place hne
      obtain ⟨e0, e1⟩ := hl k _ hg
      have hlt' : (D.take k).length ≤ 1024 := by simp; omega
      clear hl hg
      generalize D[k] = p at *
      obtain ⟨s', v'⟩ := p
      dsimp only at e0 e1
      have htkh := hide htk
      generalize hDk : D.take k = Dk at *
      clear htk hDk
      cases dn with
      | true =>
        simp only [if_true] at ho
        have hex := hth.out rfl
        have hli : (ins (s, v) Dk).length ≤ 1025 := by rw [len_ins]; omega
        have hdd := hide (ins_done (c := (s, v)) (y := (s', v')) hex)
        have hxx := hide hex
        generalize hI : ins (s, v) Dk = I at *
        clear hex
        go_wp2
        go_quiet (fail)
        have bq := belN hb nq
        have oq := ho.grow (belN (Below.refl _ wr) nq)
        have szq : (wr.drewN nq).heap.size = wr.heap.size := rfl
        go_wp2_with (at_builtin; go_must (refine app_cell _ rfl (.tmp 30) (.tmp 35) rfl w1.heap.size I _ rfl ⟨wr.heap.size, 0, none⟩ rfl s' v' (At2.new (wr.drewN nq) (s', v') _).1 (At2.new (wr.drewN nq) (s', v') _).2 (oq.alloc _) (by simp; omega) (by omega) ?y1))
        case y1 =>
          intro u3 w3 o3 hn3 hg3
          have b3 := (bq.alloc bq.size (.cells #[.int .i64 s', .string v'] 111)).grown hg3 (by have := bq.size; simp at this ⊢; omega) (fun k hk => (World.ownsRow.lt (oq.alloc (.cells #[.int .i64 s', .string v'] 111)) k hk).1)
          have bh3 := hide b3
          clear hg3 b3
          go_wp2
          go_round
          case rel => exact ⟨k + 1, true, by go_num, rfl, by omega, by simp, fun _ => by rw [htkh.out]; obtain ⟨p, hp, hc⟩ := hxx.out; exact ⟨p, by simp [hp], hc⟩, by rw [htkh.out]; simp only [if_true]; rw [hdd.out]; exact o3, bh3.out⟩
          case measure => simp [intOf]; omega
      | false =>
        simp only [Bool.false_eq_true, if_false] at ho
        have hno := hfh.out rfl
        by_cases hc : s < s'
        · have hhit := hide (ins_hit (c := (s, v)) (y := (s', v')) hno hc)
          have htt : decide (s < s') = true := by simp [hc]
          go_wp2
          go_quiet (fail)
          have bq := belN hb nq
          have oq := ho.grow (belN (Below.refl _ wr) nq)
          go_wp2_with (at_builtin; go_must (refine app_cell _ rfl (.tmp 26) (.tmp 28) rfl w1.heap.size Dk _ rfl ⟨wr.heap.size, 0, none⟩ rfl s v (At2.new (wr.drewN nq) (s, v) _).1 (At2.new (wr.drewN nq) (s, v) _).2 (oq.alloc _) (by simp; omega) (by omega) ?y2))
          case y2 =>
            intro u3 w3 o3 hn3 hg3
            have b3 := (bq.alloc bq.size (.cells #[.int .i64 s, .string v] 111)).grown hg3 (by have := bq.size; simp at this ⊢; omega) (fun k hk => (World.ownsRow.lt (oq.alloc (.cells #[.int .i64 s, .string v] 111)) k hk).1)
            have hl3 : (Dk ++ [(s, v)]).length ≤ 1025 := by simp; omega
            have hqq : q < w1.heap.size := by
              obtain ⟨q', o', e', hq', _⟩ := hh.out.place hne
              cases e'
              exact hq'
            have f0 := (b3.cell (p := ⟨q, o + k * 2, none⟩) hqq).trans ((hb.cell (p := ⟨q, o + k * 2, none⟩) hqq).symm.trans e0)
            have f1 := (b3.cell (p := ⟨q, o + k * 2 + 1, none⟩) hqq).trans ((hb.cell (p := ⟨q, o + k * 2 + 1, none⟩) hqq).symm.trans e1)
            clear hg3
            generalize hDc : Dk ++ [(s, v)] = Dc at *
            go_wp2_with (at_builtin; go_must (refine app_cell _ rfl (.tmp 30) (.tmp 35) rfl w1.heap.size Dc _ rfl ⟨w3.heap.size, 0, none⟩ rfl s' v' (At2.new w3 (s', v') _).1 (At2.new w3 (s', v') _).2 (o3.alloc _) (by have := b3.size; simp at this ⊢; omega) (by omega) ?y3))
            case y3 =>
              intro u4 w4 o4 hn4 hg4
              have b4 := (b3.alloc b3.size (.cells #[.int .i64 s', .string v'] 111)).grown hg4 (by have := b3.size; simp at this ⊢; omega) (fun k hk => (World.ownsRow.lt (o3.alloc (.cells #[.int .i64 s', .string v'] 111)) k hk).1)
              have bh4 := hide b4
              clear hg4 b4
              go_wp2
              go_round
              case rel => exact ⟨k + 1, true, by go_num, rfl, by omega, by simp, fun _ => by rw [htkh.out]; exact ⟨(s', v'), by simp, hc⟩, by rw [htkh.out]; simp only [if_true]; rw [hhit.out]; exact o4, bh4.out⟩
              case measure => simp [intOf]; omega
        · have htt : decide (s < s') = false := by simp; omega
          go_wp2
          go_quiet (fail)
          have bq := belN hb nq
          have oq := ho.grow (belN (Below.refl _ wr) nq)
          go_wp2_with (at_builtin; go_must (refine app_cell _ rfl (.tmp 30) (.tmp 35) rfl w1.heap.size Dk _ rfl ⟨wr.heap.size, 0, none⟩ rfl s' v' (At2.new (wr.drewN nq) (s', v') _).1 (At2.new (wr.drewN nq) (s', v') _).2 (oq.alloc _) (by simp; omega) (by omega) ?y4))
          case y4 =>
            intro u3 w3 o3 hn3 hg3
            have b3 := (bq.alloc bq.size (.cells #[.int .i64 s', .string v'] 111)).grown hg3 (by have := bq.size; simp at this ⊢; omega) (fun k hk => (World.ownsRow.lt (oq.alloc (.cells #[.int .i64 s', .string v'] 111)) k hk).1)
            have bh3 := hide b3
            clear hg3 b3
            go_wp2
            go_round
            case rel => exact ⟨k + 1, false, by go_num, rfl, by omega, fun _ => by rw [htkh.out]; intro p hp; rcases List.mem_append.1 hp with hp | hp; (have := hno p hp; omega); (simp at hp; subst hp; dsimp only; omega), by simp, by rw [htkh.out]; simp only [Bool.false_eq_true, if_false]; exact o3, bh3.out⟩
            case measure => simp [intOf]; omega
    · obtain rfl : k = D.length := by omega
      rw [List.take_of_length_le (Nat.le_refl _)] at ho hfh hth
      have hs1' := hs1.out
      cases dn with
      | true =>
        simp only [if_true] at ho
        go_wp2
        go_ret
        exact ⟨_, rfl, ho.low (by omega), bw.trans (hb.mono (by omega))⟩
      | false =>
        simp only [Bool.false_eq_true, if_false] at ho
        have hin := hide (ins_none (c := (s, v)) (hfh.out rfl))
        have hh1 := hide hs1'
        clear hs1'
        go_wp2_with (at_builtin; go_must (refine app_cell _ rfl (.tmp 39) (.tmp 41) rfl w1.heap.size D _ rfl ⟨wr.heap.size, 0, none⟩ rfl s v (At2.new wr (s, v) _).1 (At2.new wr (s, v) _).2 (ho.alloc _) (by simp; omega) (by omega) ?y5))
        case y5 =>
          intro u3 w3 o3 hn3 hg3
          have b3 := (hb.alloc hb.size (.cells #[.int .i64 s, .string v] 111)).grown hg3 (by have := hb.size; simp at this ⊢; omega) (fun k hk => (World.ownsRow.lt (ho.alloc (.cells #[.int .i64 s, .string v] 111)) k hk).1)
          have bh3 := hide b3
          clear hg3 b3
          go_wp2
          go_ret
          have := hh1.out
          exact ⟨_, rfl, by rw [hin.out]; exact o3.low (by omega), bw.trans (bh3.out.mono (by omega))⟩
end Go.Proofs.Ytjabbplfbjaenaa
namespace Go.Proofs.Ytjabbplfbjaenaa
open Go.RowKit
theorem bh_snoc (p : Cl) : ∀ L : List Cl, bh (L ++ [p]) = max (bh L) (p.1 + 1)
  | [] => by simp only [List.nil_append, bh]; omega
  | y :: r => by simp only [List.cons_append, bh, bh_snoc p r]; omega
set_option maxHeartbeats 2000000 in
theorem refdo_any (D : List Cl) (a : Option Addr) (c : Nat) (k s : Int) (v : ByteArray) (hf : (⟨k, s, v⟩ : Opn).fits) (w : World) (h : SlC w (.slice a D.length c) D a c) (hok : Ok D) :
    Calls Try.prog 19 #[.slice a D.length c, .agg #[.int .i64 k, .int .i64 s, .string v]] w fun e w' => ∃ a' c', e = .returned (.tuple #[.slice a' (dn D k s v).length c', rV (wd D k s v)]) ∧ SlC w' (.slice a' (dn D k s v).length c') (dn D k s v) a' c' ∧ Below w.heap.size w w' ∧ (a' = a ∧ dn D k s v = D ∨ ∀ z, a' = some z → w.heap.size ≤ z.block) := by
  have hmx := h.max
  have hcap := h.cap
  unfold maxLen at hmx
  have hll := hok.len_le
  have hh := hide h
  have hoh := hide hok
  have hb0 : ∀ x, a = some x → D ≠ [] → ¬ x.block = w.heap.size + 1 := fun x hx hne => by
    obtain ⟨q, o, e, hq, _⟩ := h.place hne
    rw [hx] at e
    cases e
    dsimp only
    omega
  have hno := hide hb0
  clear h hok hb0
  have cc := fun W => refcheck k s v hf W
  by_cases hc : ck k s v = 0
  · rw [hc] at cc
    have cg := fun W hW => refget_any D a c s W hW
    obtain ⟨x, tk, hx, htk, hg⟩ : ∃ (x : ByteArray) (tk : Bool), (gv D s).getD ByteArray.empty = x ∧ (gv D s).isSome = tk ∧ gv D s = if tk then some x else none := by
      cases gv D s with
      | none => exact ⟨_, _, rfl, rfl, rfl⟩
      | some y => exact ⟨_, _, rfl, rfl, rfl⟩
    rw [hx, htk] at cg
    have hr : wd D k s v = if k = 1 then (if tk then (2, s, x) else (1, s, v)) else if k = 2 then (if bh D < 1024 then (1, bh D, v) else (3, 0, ByteArray.empty)) else if k = 3 then (if tk then (4, s, x) else (5, s, ByteArray.empty)) else (6, D.length, ByteArray.empty) := by
      unfold wd
      rw [hg]
      cases tk <;> simp [hc]
    have hrd : dn D k s v = if (wd D k s v).1 = 1 then ins (wd D k s v).2 D else D := rfl
    rw [hr] at hrd
    have hwh := hide hr
    have hdh := hide hrd
    have k4 : k = 1 ∨ k = 2 ∨ k = 3 ∨ k = 4 := by
      unfold ck at hc
      by_cases a1 : k = 1 ∨ k = 3
      · omega
      · by_cases a2 : k = 2 ∨ k = 4
        · omega
        · simp [a1, a2] at hc
    clear hr hrd hg hx htk hc
    rcases k4 with rfl | rfl | rfl | rfl
    · cases tk with
      | true =>
        have hwq := hide (show wd D _ s v = (2, s, x) by rw [hwh.out]; simp)
        have hdq := hide (show dn D _ s v = D by rw [hdh.out]; simp)
        go_enter Try.func19, Try.ntmps19
        go_wp2_with (first
          | (go_at_call 17; refine (cc _).mono ?_; rintro e w1 ⟨rfl, hb⟩; obtain ⟨y0, y1, y2, z0, z1, z2, zf0, zf1, zf2⟩ := box_facts hb; have hb5 : Below w.heap.size w w1 := (((Below.refl w.heap.size w).alloc (Nat.le_refl _) _).alloc (by simp) _).trans (hb.mono (by simp; omega)))
          | (go_at_call 39; refine (cg _ (hh.out.later hb5)).mono ?_; rintro e w2 ⟨rfl, h2⟩; subst h2))
        go_region_held3 (fun v' => v'.cell? ⟨w.heap.size, 1, none⟩ = some (.int .i64 s)) (first | go_keep | go_simp) (fail)
        go_wp2
        refine bodyPost_ret (v := .tuple #[.slice a D.length c, rV (2, s, x)]) (by simp [results, Try.results19, go_sem, rV, *] <;> rfl) rfl ⟨a, c, by rw [hdq.out, hwq.out], ?_, ?_, .inl ⟨rfl, hdq.out⟩⟩
        · rw [hdq.out]
          exact (hh.out.later (hb5.drew)).upd (S := fun i => i = w.heap.size + 1) ((((Upd.refl (fun i => i = w.heap.size + 1) _).setCell (p := ⟨w.heap.size + 1, 0, none⟩) (.inl rfl) _).setCell (p := ⟨w.heap.size + 1, 1, none⟩) (.inl rfl) _).setCell (p := ⟨w.heap.size + 1, 2, none⟩) (.inl rfl) _) hno.out
        · exact (((hb5.drew).setCell (p := ⟨w.heap.size + 1, 0, none⟩) (by simp) _).setCell (p := ⟨w.heap.size + 1, 1, none⟩) (by simp) _).setCell (p := ⟨w.heap.size + 1, 2, none⟩) (by simp) _
      | false =>
        have hwq := hide (show wd D _ s v = (1, s, v) by rw [hwh.out]; simp)
        have hdq := hide (show dn D _ s v = ins (s, v) D by rw [hdh.out]; simp)
        go_enter Try.func19, Try.ntmps19
        go_wp2_with (first
          | (go_at_call 17; refine (cc _).mono ?_; rintro e w1 ⟨rfl, hb⟩; obtain ⟨y0, y1, y2, z0, z1, z2, zf0, zf1, zf2⟩ := box_facts hb; have hb5 : Below w.heap.size w w1 := (((Below.refl w.heap.size w).alloc (Nat.le_refl _) _).alloc (by simp) _).trans (hb.mono (by simp; omega)))
          | (go_at_call 39; refine (cg _ (hh.out.later hb5)).mono ?_; rintro e w2 ⟨rfl, h2⟩; subst h2))
        have hsz2 : w.heap.size + 2 ≤ w2.heap.size := by simpa using hb.size
        have KS : ∀ v', Below w2.heap.size w2 v' → (v'.cell? ⟨w.heap.size, 1, none⟩ = some (.int .i64 s) ∧ v'.cell? ⟨w.heap.size, 2, none⟩ = some (.string v)) := fun v' b' => ⟨(b'.cell (p := ⟨w.heap.size, 1, none⟩) (by dsimp only; omega)).trans y1, (b'.cell (p := ⟨w.heap.size, 2, none⟩) (by dsimp only; omega)).trans y2⟩
        have KH := hide KS
        have hsl2 := hide (hh.out.later hb5)
        clear KS
        go_region_held3 (fun v' => v'.cell? ⟨w.heap.size, 1, none⟩ = some (.int .i64 s) ∧ v'.cell? ⟨w.heap.size, 2, none⟩ = some (.string v))
          (first | exact KH.out _ (Below.refl _ _).drew | exact KH.out _ (by assumption) | go_keep | (exact ⟨by go_simp, by go_simp⟩) | go_simp)
          (first | (go_at_call 40; refine (refput_any D a c (s, v) _ (hsl2.out.later (Below.refl _ _).drew) hll).mono ?_; rintro e w3 ⟨v3, rfl, o3, b3⟩; have hb3 : Below w2.heap.size w2 w3 := (Below.refl _ w2).drew.trans b3; obtain ⟨a3, c3, sl3', hz3'⟩ := o3.sl; have hv3 := sl3'.form; subst hv3; have sl3 := hide sl3'; have hz3 := hide hz3'; have zz0 := (hb3.cell (p := ⟨w.heap.size + 1, 0, none⟩) (by dsimp only; omega)).trans z0; have zz1 := (hb3.cell (p := ⟨w.heap.size + 1, 1, none⟩) (by dsimp only; omega)).trans z1; have zz2 := (hb3.cell (p := ⟨w.heap.size + 1, 2, none⟩) (by dsimp only; omega)).trans z2; have zg0 := (hb3.frozen (p := ⟨w.heap.size + 1, 0, none⟩) (by dsimp only; omega)).trans zf0; have zg1 := (hb3.frozen (p := ⟨w.heap.size + 1, 1, none⟩) (by dsimp only; omega)).trans zf1; have zg2 := (hb3.frozen (p := ⟨w.heap.size + 1, 2, none⟩) (by dsimp only; omega)).trans zf2; clear sl3' hz3' o3))
        go_wp2
        refine bodyPost_ret (v := .tuple #[.slice a3 (ins (s, v) D).length c3, rV (1, s, v)]) (by simp [results, Try.results19, go_sem, rV, *] <;> rfl) rfl ⟨a3, c3, by rw [hdq.out, hwq.out], ?_, ?_, .inr (fun z hz => by have := (hz3.out z hz).1; have e : (World.drew w2).heap.size = w2.heap.size := rfl; omega)⟩
        · rw [hdq.out]
          exact (sl3.out.later (belN (Below.refl _ w3) 0)).upd (S := fun i => i = w.heap.size + 1) ((((Upd.refl (fun i => i = w.heap.size + 1) _).setCell (p := ⟨w.heap.size + 1, 0, none⟩) (.inl rfl) _).setCell (p := ⟨w.heap.size + 1, 1, none⟩) (.inl rfl) _).setCell (p := ⟨w.heap.size + 1, 2, none⟩) (.inl rfl) _) (fun x hx _ hq => by have := (hz3.out x hx).1; have e : (World.drew w2).heap.size = w2.heap.size := rfl; omega)
        · exact (((hb5.trans (hb3.mono hb5.size)).setCell (p := ⟨w.heap.size + 1, 0, none⟩) (by simp) _).setCell (p := ⟨w.heap.size + 1, 1, none⟩) (by simp) _).setCell (p := ⟨w.heap.size + 1, 2, none⟩) (by simp) _
    · by_cases hbh : bh D < 1024
      · have hwq := hide (show wd D _ s v = (1, bh D, v) by rw [hwh.out]; simp [hbh])
        have hdq := hide (show dn D _ s v = ins (bh D, v) D by rw [hdh.out]; simp [hbh])
        go_enter Try.func19, Try.ntmps19
        go_wp2_with (first
          | (go_at_call 17; refine (cc _).mono ?_; rintro e w1 ⟨rfl, hb⟩; obtain ⟨y0, y1, y2, z0, z1, z2, zf0, zf1, zf2⟩ := box_facts hb; have hb5 : Below w.heap.size w w1 := (((Below.refl w.heap.size w).alloc (Nat.le_refl _) _).alloc (by simp) _).trans (hb.mono (by simp; omega)))
          | (go_at_call 39; refine (cg _ (hh.out.later hb5)).mono ?_; rintro e w2 ⟨rfl, h2⟩; subst h2))
        have hDh := hide hoh.out.may
        go_loopw [9, 8] (fun i t wr => ∃ j : Nat, i = .int .i64 (j : Int) ∧ t = .int .i64 (bh (D.take j)) ∧ j ≤ D.length ∧ wr = w2) (fun i _ _ => D.length - (intOf i).toNat)
        case atStart => exact ⟨0, rfl, rfl, Nat.zero_le _, rfl⟩
        case round =>
          obtain ⟨j, rfl, rfl, hj, hwr⟩ := hrel
          have hwr := hwr.symm
          subst hwr
          by_cases hlt : j < D.length
          · have hg : D[j]? = some D[j] := List.getElem?_eq_getElem hlt
            have hne : D ≠ [] := by rintro rfl; simp at hlt
            have htk : bh (D.take (j + 1)) = max (bh (D.take j)) (D[j].1 + 1) := by rw [List.take_add_one, hg]; exact bh_snoc _ _
            have hmj := hDh.out D[j] (List.getElem_mem hlt)
            obtain ⟨q, o, rfl, hq, hl⟩ := (hh.out.later hb5).place hne
            obtain ⟨e0, e1⟩ := hl j _ hg
            have hb1 := bh_le (L := D.take j) (fun p hp => (hDh.out p (List.mem_of_mem_take hp)).2.1)
            have hb2 := bh_nonneg (D.take j)
            clear hl hg
            generalize D[j] = p at *
            obtain ⟨s', v'⟩ := p
            dsimp only at e0 e1 htk hmj
            generalize hbt : bh (D.take j) = t at *
            by_cases hc : t ≤ s'
            · have hT := hide (show bh (D.take (j + 1)) = s' + 1 by rw [htk]; omega)
              clear htk
              have hcc : decide (t ≤ s') = true := by simp [hc]
              go_wp2
              go_round
              case rel => exact ⟨j + 1, by go_num, by rw [hT.out], by omega, by first | rfl | trivial⟩
              case measure => simp [intOf]; omega
            · have hT := hide (show bh (D.take (j + 1)) = t by rw [htk]; omega)
              clear htk
              have hcc : decide (t ≤ s') = false := by simp; omega
              go_wp2
              go_round
              case rel => exact ⟨j + 1, by go_num, by rw [hT.out], by omega, by first | rfl | trivial⟩
              case measure => simp [intOf]; omega
          · obtain rfl : j = D.length := by omega
            rw [List.take_of_length_le (Nat.le_refl _)]
            generalize hbg : bh D = t at *
            have hcc : decide ((1024 : Int) ≤ t) = false := by simp; omega
            go_wp2
            have hsz2 : w.heap.size + 2 ≤ w2.heap.size := by simpa using hb.size
            have KS : ∀ v', Below w2.heap.size w2 v' → (v'.cell? ⟨w.heap.size, 2, none⟩ = some (.string v)) := fun v' b' => (b'.cell (p := ⟨w.heap.size, 2, none⟩) (by dsimp only; omega)).trans y2
            have KH := hide KS
            have hsl2 := hide (hh.out.later hb5)
            clear KS
            go_region_held3 (fun v' => v'.cell? ⟨w.heap.size, 2, none⟩ = some (.string v))
              (first | exact KH.out _ (Below.refl _ _).drew | exact KH.out _ (by assumption) | go_keep | (exact ⟨by go_simp, by go_simp⟩) | go_simp)
              (first | (go_at_call 40; refine (refput_any D a c (t, v) _ (hsl2.out.later (Below.refl _ _).drew) hll).mono ?_; rintro e w3 ⟨v3, rfl, o3, b3⟩; have hb3 : Below w2.heap.size w2 w3 := (Below.refl _ w2).drew.trans b3; obtain ⟨a3, c3, sl3', hz3'⟩ := o3.sl; have hv3 := sl3'.form; subst hv3; have sl3 := hide sl3'; have hz3 := hide hz3'; have zz0 := (hb3.cell (p := ⟨w.heap.size + 1, 0, none⟩) (by dsimp only; omega)).trans z0; have zz1 := (hb3.cell (p := ⟨w.heap.size + 1, 1, none⟩) (by dsimp only; omega)).trans z1; have zz2 := (hb3.cell (p := ⟨w.heap.size + 1, 2, none⟩) (by dsimp only; omega)).trans z2; have zg0 := (hb3.frozen (p := ⟨w.heap.size + 1, 0, none⟩) (by dsimp only; omega)).trans zf0; have zg1 := (hb3.frozen (p := ⟨w.heap.size + 1, 1, none⟩) (by dsimp only; omega)).trans zf1; have zg2 := (hb3.frozen (p := ⟨w.heap.size + 1, 2, none⟩) (by dsimp only; omega)).trans zf2; clear sl3' hz3' o3))
            go_wp2
            refine bodyPost_ret (v := .tuple #[.slice a3 (ins (t, v) D).length c3, rV (1, t, v)]) (by simp [results, Try.results19, go_sem, rV, *] <;> rfl) rfl ⟨a3, c3, by rw [hdq.out, hwq.out], ?_, ?_, .inr (fun z hz => by have := (hz3.out z hz).1; have e : (World.drew w2).heap.size = w2.heap.size := rfl; omega)⟩
            · rw [hdq.out]
              exact (sl3.out.later (belN (Below.refl _ w3) 0)).upd (S := fun i => i = w.heap.size + 1) ((((Upd.refl (fun i => i = w.heap.size + 1) _).setCell (p := ⟨w.heap.size + 1, 0, none⟩) (.inl rfl) _).setCell (p := ⟨w.heap.size + 1, 1, none⟩) (.inl rfl) _).setCell (p := ⟨w.heap.size + 1, 2, none⟩) (.inl rfl) _) (fun x hx _ hq => by have := (hz3.out x hx).1; have e : (World.drew w2).heap.size = w2.heap.size := rfl; omega)
            · exact (((hb5.trans (hb3.mono hb5.size)).setCell (p := ⟨w.heap.size + 1, 0, none⟩) (by simp) _).setCell (p := ⟨w.heap.size + 1, 1, none⟩) (by simp) _).setCell (p := ⟨w.heap.size + 1, 2, none⟩) (by simp) _
      · have hwq := hide (show wd D _ s v = (3, 0, ByteArray.empty) by rw [hwh.out]; simp [hbh])
        have hdq := hide (show dn D _ s v = D by rw [hdh.out]; simp [hbh])
        go_enter Try.func19, Try.ntmps19
        go_wp2_with (first
          | (go_at_call 17; refine (cc _).mono ?_; rintro e w1 ⟨rfl, hb⟩; obtain ⟨y0, y1, y2, z0, z1, z2, zf0, zf1, zf2⟩ := box_facts hb; have hb5 : Below w.heap.size w w1 := (((Below.refl w.heap.size w).alloc (Nat.le_refl _) _).alloc (by simp) _).trans (hb.mono (by simp; omega)))
          | (go_at_call 39; refine (cg _ (hh.out.later hb5)).mono ?_; rintro e w2 ⟨rfl, h2⟩; subst h2))
        have hDh := hide hoh.out.may
        go_loopw [9, 8] (fun i t wr => ∃ j : Nat, i = .int .i64 (j : Int) ∧ t = .int .i64 (bh (D.take j)) ∧ j ≤ D.length ∧ wr = w2) (fun i _ _ => D.length - (intOf i).toNat)
        case atStart => exact ⟨0, rfl, rfl, Nat.zero_le _, rfl⟩
        case round =>
          obtain ⟨j, rfl, rfl, hj, hwr⟩ := hrel
          have hwr := hwr.symm
          subst hwr
          by_cases hlt : j < D.length
          · have hg : D[j]? = some D[j] := List.getElem?_eq_getElem hlt
            have hne : D ≠ [] := by rintro rfl; simp at hlt
            have htk : bh (D.take (j + 1)) = max (bh (D.take j)) (D[j].1 + 1) := by rw [List.take_add_one, hg]; exact bh_snoc _ _
            have hmj := hDh.out D[j] (List.getElem_mem hlt)
            obtain ⟨q, o, rfl, hq, hl⟩ := (hh.out.later hb5).place hne
            obtain ⟨e0, e1⟩ := hl j _ hg
            have hb1 := bh_le (L := D.take j) (fun p hp => (hDh.out p (List.mem_of_mem_take hp)).2.1)
            have hb2 := bh_nonneg (D.take j)
            clear hl hg
            generalize D[j] = p at *
            obtain ⟨s', v'⟩ := p
            dsimp only at e0 e1 htk hmj
            generalize hbt : bh (D.take j) = t at *
            by_cases hc : t ≤ s'
            · have hT := hide (show bh (D.take (j + 1)) = s' + 1 by rw [htk]; omega)
              clear htk
              have hcc : decide (t ≤ s') = true := by simp [hc]
              go_wp2
              go_round
              case rel => exact ⟨j + 1, by go_num, by rw [hT.out], by omega, by first | rfl | trivial⟩
              case measure => simp [intOf]; omega
            · have hT := hide (show bh (D.take (j + 1)) = t by rw [htk]; omega)
              clear htk
              have hcc : decide (t ≤ s') = false := by simp; omega
              go_wp2
              go_round
              case rel => exact ⟨j + 1, by go_num, by rw [hT.out], by omega, by first | rfl | trivial⟩
              case measure => simp [intOf]; omega
          · obtain rfl : j = D.length := by omega
            rw [List.take_of_length_le (Nat.le_refl _)]
            generalize hbg : bh D = t at *
            have hcc : decide ((1024 : Int) ≤ t) = true := by simp; omega
            go_wp2
            refine bodyPost_ret (v := .tuple #[.slice a D.length c, rV (3, 0, ByteArray.empty)]) (by simp [results, Try.results19, go_sem, rV, *] <;> rfl) rfl ⟨a, c, by rw [hdq.out, hwq.out], ?_, ?_, .inl ⟨rfl, hdq.out⟩⟩
            · rw [hdq.out]
              exact (hh.out.later (hb5)).upd (S := fun i => i = w.heap.size + 1) ((((Upd.refl (fun i => i = w.heap.size + 1) _).setCell (p := ⟨w.heap.size + 1, 0, none⟩) (.inl rfl) _).setCell (p := ⟨w.heap.size + 1, 1, none⟩) (.inl rfl) _).setCell (p := ⟨w.heap.size + 1, 2, none⟩) (.inl rfl) _) hno.out
            · exact (((hb5).setCell (p := ⟨w.heap.size + 1, 0, none⟩) (by simp) _).setCell (p := ⟨w.heap.size + 1, 1, none⟩) (by simp) _).setCell (p := ⟨w.heap.size + 1, 2, none⟩) (by simp) _
    · cases tk with
      | true =>
        have hwq := hide (show wd D _ s v = (4, s, x) by rw [hwh.out]; simp)
        have hdq := hide (show dn D _ s v = D by rw [hdh.out]; simp)
        go_enter Try.func19, Try.ntmps19
        go_wp2_with (first
          | (go_at_call 17; refine (cc _).mono ?_; rintro e w1 ⟨rfl, hb⟩; obtain ⟨y0, y1, y2, z0, z1, z2, zf0, zf1, zf2⟩ := box_facts hb; have hb5 : Below w.heap.size w w1 := (((Below.refl w.heap.size w).alloc (Nat.le_refl _) _).alloc (by simp) _).trans (hb.mono (by simp; omega)))
          | (go_at_call 39; refine (cg _ (hh.out.later hb5)).mono ?_; rintro e w2 ⟨rfl, h2⟩; subst h2))
        go_region_held3 (fun v' => v'.cell? ⟨w.heap.size, 1, none⟩ = some (.int .i64 s)) (first | go_keep | go_simp) (fail)
        go_wp2
        refine bodyPost_ret (v := .tuple #[.slice a D.length c, rV (4, s, x)]) (by simp [results, Try.results19, go_sem, rV, *] <;> rfl) rfl ⟨a, c, by rw [hdq.out, hwq.out], ?_, ?_, .inl ⟨rfl, hdq.out⟩⟩
        · rw [hdq.out]
          exact (hh.out.later (hb5.drew)).upd (S := fun i => i = w.heap.size + 1) ((((Upd.refl (fun i => i = w.heap.size + 1) _).setCell (p := ⟨w.heap.size + 1, 0, none⟩) (.inl rfl) _).setCell (p := ⟨w.heap.size + 1, 1, none⟩) (.inl rfl) _).setCell (p := ⟨w.heap.size + 1, 2, none⟩) (.inl rfl) _) hno.out
        · exact (((hb5.drew).setCell (p := ⟨w.heap.size + 1, 0, none⟩) (by simp) _).setCell (p := ⟨w.heap.size + 1, 1, none⟩) (by simp) _).setCell (p := ⟨w.heap.size + 1, 2, none⟩) (by simp) _
      | false =>
        have hwq := hide (show wd D _ s v = (5, s, ByteArray.empty) by rw [hwh.out]; simp)
        have hdq := hide (show dn D _ s v = D by rw [hdh.out]; simp)
        go_enter Try.func19, Try.ntmps19
        go_wp2_with (first
          | (go_at_call 17; refine (cc _).mono ?_; rintro e w1 ⟨rfl, hb⟩; obtain ⟨y0, y1, y2, z0, z1, z2, zf0, zf1, zf2⟩ := box_facts hb; have hb5 : Below w.heap.size w w1 := (((Below.refl w.heap.size w).alloc (Nat.le_refl _) _).alloc (by simp) _).trans (hb.mono (by simp; omega)))
          | (go_at_call 39; refine (cg _ (hh.out.later hb5)).mono ?_; rintro e w2 ⟨rfl, h2⟩; subst h2))
        go_region_held3 (fun v' => v'.cell? ⟨w.heap.size, 1, none⟩ = some (.int .i64 s)) (first | go_keep | go_simp) (fail)
        go_wp2
        refine bodyPost_ret (v := .tuple #[.slice a D.length c, rV (5, s, ByteArray.empty)]) (by simp [results, Try.results19, go_sem, rV, *] <;> rfl) rfl ⟨a, c, by rw [hdq.out, hwq.out], ?_, ?_, .inl ⟨rfl, hdq.out⟩⟩
        · rw [hdq.out]
          exact (hh.out.later (hb5.drew)).upd (S := fun i => i = w.heap.size + 1) ((((Upd.refl (fun i => i = w.heap.size + 1) _).setCell (p := ⟨w.heap.size + 1, 0, none⟩) (.inl rfl) _).setCell (p := ⟨w.heap.size + 1, 1, none⟩) (.inl rfl) _).setCell (p := ⟨w.heap.size + 1, 2, none⟩) (.inl rfl) _) hno.out
        · exact (((hb5.drew).setCell (p := ⟨w.heap.size + 1, 0, none⟩) (by simp) _).setCell (p := ⟨w.heap.size + 1, 1, none⟩) (by simp) _).setCell (p := ⟨w.heap.size + 1, 2, none⟩) (by simp) _
    · have hwq := hide (show wd D _ s v = (6, (D.length : Int), ByteArray.empty) by rw [hwh.out]; simp)
      have hdq := hide (show dn D _ s v = D by rw [hdh.out]; simp)
      go_enter Try.func19, Try.ntmps19
      go_wp2_with (first
        | (go_at_call 17; refine (cc _).mono ?_; rintro e w1 ⟨rfl, hb⟩; obtain ⟨y0, y1, y2, z0, z1, z2, zf0, zf1, zf2⟩ := box_facts hb; have hb5 : Below w.heap.size w w1 := (((Below.refl w.heap.size w).alloc (Nat.le_refl _) _).alloc (by simp) _).trans (hb.mono (by simp; omega)))
        | (go_at_call 39; refine (cg _ (hh.out.later hb5)).mono ?_; rintro e w2 ⟨rfl, h2⟩; subst h2))
      refine bodyPost_ret (v := .tuple #[.slice a D.length c, rV (6, (D.length : Int), ByteArray.empty)]) (by simp [results, Try.results19, go_sem, rV, *] <;> rfl) rfl ⟨a, c, by rw [hdq.out, hwq.out], ?_, ?_, .inl ⟨rfl, hdq.out⟩⟩
      · rw [hdq.out]
        exact (hh.out.later (hb5)).upd (S := fun i => i = w.heap.size + 1) ((((Upd.refl (fun i => i = w.heap.size + 1) _).setCell (p := ⟨w.heap.size + 1, 0, none⟩) (.inl rfl) _).setCell (p := ⟨w.heap.size + 1, 1, none⟩) (.inl rfl) _).setCell (p := ⟨w.heap.size + 1, 2, none⟩) (.inl rfl) _) hno.out
      · exact (((hb5).setCell (p := ⟨w.heap.size + 1, 0, none⟩) (by simp) _).setCell (p := ⟨w.heap.size + 1, 1, none⟩) (by simp) _).setCell (p := ⟨w.heap.size + 1, 2, none⟩) (by simp) _
  · have hr : wd D k s v = (0, 0, ByteArray.empty) := by simp [wd, hc]
    have hd : dn D k s v = D := by simp [dn, hr]
    have hwq := hide hr
    have hdq := hide hd
    have hne : (ck k s v != 0) = true := by simp [hc]
    clear hr hd
    go_enter Try.func19, Try.ntmps19
    go_wp2_with (go_at_call 17; refine (cc _).mono ?_; rintro e w1 ⟨rfl, hb⟩; obtain ⟨y0, y1, y2, z0, z1, z2, zf0, zf1, zf2⟩ := box_facts hb)
    have hb5 : Below w.heap.size w w1 := (((Below.refl w.heap.size w).alloc (Nat.le_refl _) _).alloc (by simp) _).trans (hb.mono (by simp; omega))
    refine bodyPost_ret (v := .tuple #[.slice a D.length c, rV (0, 0, ByteArray.empty)]) (by simp [results, Try.results19, go_sem, rV, *] <;> rfl) rfl ⟨a, c, by rw [hdq.out, hwq.out], ?_, ?_, .inl ⟨rfl, hdq.out⟩⟩
    · rw [hdq.out]
      exact (hh.out.later (hb5)).upd (S := fun i => i = w.heap.size + 1) ((((Upd.refl (fun i => i = w.heap.size + 1) _).setCell (p := ⟨w.heap.size + 1, 0, none⟩) (.inl rfl) _).setCell (p := ⟨w.heap.size + 1, 1, none⟩) (.inl rfl) _).setCell (p := ⟨w.heap.size + 1, 2, none⟩) (.inl rfl) _) hno.out
    · exact (((hb5).setCell (p := ⟨w.heap.size + 1, 0, none⟩) (by simp) _).setCell (p := ⟨w.heap.size + 1, 1, none⟩) (by simp) _).setCell (p := ⟨w.heap.size + 1, 2, none⟩) (by simp) _
end Go.Proofs.Ytjabbplfbjaenaa
namespace Go.Proofs.Ytjabbplfbjaenaa
open Go.RowKit
end Go.Proofs.Ytjabbplfbjaenaa
namespace Go.Proofs.Ytjabbplfbjaenaa
open Go.RowKit
end Go.Proofs.Ytjabbplfbjaenaa
namespace Go.Proofs.Ytjabbplfbjaenaa
open Go.ChangeShapes Go.WideShapes Go.ChangeAt Go.RowKit
open Classical
theorem opCells : Try.prog.cellsOf 41 = 3 := by kernel_rfl
theorem intCells : Try.prog.cellsOf 3 = 1 := by kernel_rfl
theorem strCells : Try.prog.cellsOf 9 = 1 := by kernel_rfl
theorem open_opc {H : Type} {enc : TypeId × Value → H} {W : World} {base : Nat} {sp : Nat → Bool} {held : Bool} {n : Nat} {cs : List Value} {x : DataW H × List MemPlace} (h : DataW.trod enc Try.prog W base sp held n 41 cs = some x) :
    ∃ p : Opn, p.fits ∧ cs = [.int .i64 p.k, .int .i64 p.s, .string p.v] := by
  obtain ⟨xs, k, hk, hxy, hlen, hxl, hf⟩ := DataW.trod_struct Try.underlying41 h
  rw [opCells] at hlen
  have hxl : xs.length = 3 := hxl
  match xs, hxl, cs, hlen with
  | [y0, y1, y2], _, [v0, v1, v2], _ =>
    have g0 := hf 0 _ rfl
    have g1 := hf 1 _ rfl
    have g2 := hf 2 _ rfl
    simp [intCells, strCells] at g0 g1 g2
    obtain ⟨K, hK, hx0, hw0⟩ := DataW.trod_int Try.underlying3 g0
    obtain ⟨N, hN, hx2, hw2⟩ := DataW.trod_int Try.underlying3 g1
    obtain ⟨t, hS, hx4, hw4⟩ := DataW.trod_string Try.underlying9 g2
    refine ⟨⟨K, N, t⟩, ⟨hw0, hw2, hw4⟩, ?_⟩
    rw [(List.cons_eq_cons.1 hK).1, (List.cons_eq_cons.1 hN).1, (List.cons_eq_cons.1 hS).1]
theorem open_rows18 {α : Type} {Y : Lay α} (K : Y.Ok) [Inhabited α] (fits : α → Prop) {H : Type} {enc : TypeId × Value → H} {W : World} {base : Nat} {v : Value} {d : DataW H} {p : List MemPlace} (hT : Try.prog.cellsOf Y.T = Y.k)
    (el : ∀ {n : Nat} {cs : List Value} {x : DataW H × List MemPlace}, DataW.trod enc Try.prog W 0 (fun _ => true) true n Y.T cs = some x → ∃ q : α, fits q ∧ cs = Y.cs q)
    (hv : Value.okWide Try.prog W .any base Y.ST v) (h : DataW.Trod enc Try.prog W 0 (fun _ => true) true Y.ST v d p) :
    ∃ a len cap, v = .slice a len cap ∧ ∃ P : List α, SlY Y W a len cap P ∧ (∀ q ∈ P, fits q) ∧ (∃ el sp : List (DataW H), el.length = len ∧ el.length ≤ el.length + sp.length ∧ (len = 0 ∨ d = .slice el sp)) := by
  obtain ⟨a, n, c, rfl⟩ := okWide_slice K.und hv
  refine ⟨a, n, c, rfl, ?_⟩
  obtain ⟨fuel, h⟩ := h
  simp only [Value.cells] at h
  rcases Go.Deep.open_slice K.und h with ⟨hcs, hx⟩ | ⟨y, ln, cp, m, k, D, Pl, hcs, hb, hl, hm, hmm, hx, hall⟩
  · have e := (List.cons_eq_cons.1 hcs).1
    cases e
    exact ⟨[], ⟨rfl, Nat.le_refl _, by unfold maxLen; omega, fun _ => ⟨rfl, rfl⟩, fun x hx => .inl rfl⟩, by simp, [], [], rfl, Nat.le_refl _, .inl rfl⟩
  · have e := (List.cons_eq_cons.1 hcs).1
    cases e
    have hlm : n ≤ m := by rw [hmm]; split <;> omega
    have each : ∀ i, i < n → ∃ q : α, fits q ∧ (∀ j, j < Y.k → W.cell? ((y.add (i * Y.k)).add j) = (Y.cs q)[j]?) := by
      intro i hi
      obtain ⟨cs', h1, h2⟩ := hall i (by omega)
      rw [hT] at h1
      obtain ⟨q, hf, rfl⟩ := el h2
      obtain ⟨_, _, hcell⟩ := World.cells?_some h1
      exact ⟨q, hf, hcell⟩
    obtain ⟨q, hq⟩ := Go.Deep.choose_lt each
    have hd := congrArg Prod.fst hx
    refine ⟨(List.range n).map q, ⟨by simp, hl, hm, (fun e => by cases e), fun x hx => ?_⟩, ?_, ?_⟩
    · cases hx
      by_cases hn0 : n = 0
      · subst hn0
        exact .inl rfl
      · obtain ⟨b, o, s⟩ := y
        have z0 := (hq 0 (by omega)).2 0 K.kp
        have z1 := z0.trans (List.getElem?_eq_getElem (by rw [K.len]; exact K.kp))
        have hs := World.cell?_spot z1
        obtain rfl : s = none := by
          rw [Nat.zero_mul] at hs
          simpa [Addr.add] using hs
        refine .inr ⟨b, o, rfl, ?_, fun i x hx j u hu => ?_⟩
        · rw [Addr.add_lit, Addr.add_lit] at z1
          exact World.block_lt_of_cell? _ _ z1
        · have hi : i < n := by
            have := (List.getElem?_eq_some_iff.1 hx).1
            simpa using this
          have e : q i = x := by
            simp [hi] at hx
            exact hx
          subst e
          have hj : j < Y.k := by have := (List.getElem?_eq_some_iff.1 hu).1; rwa [K.len] at this
          have := (hq i hi).2 j hj
          rw [Addr.add_lit, Addr.add_lit] at this
          exact this.trans hu
    · intro z hz
      obtain ⟨i, hi, rfl⟩ := List.mem_map.1 hz
      exact (hq i (List.mem_range.1 hi)).1
    · dsimp only at hd
      exact ⟨_, _, by simp, Nat.le_add_right _ _, .inr hd⟩
theorem rsCells18 : Try.prog.cellsOf 43 = 3 := by kernel_rfl
theorem open_rsc18 {H : Type} {enc : TypeId × Value → H} {W : World} {base : Nat} {sp : Nat → Bool} {held : Bool} {n : Nat} {cs : List Value} {x : DataW H × List MemPlace} (h : DataW.trod enc Try.prog W base sp held n 43 cs = some x) :
    ∃ r : Rs, r.2.2.size ≤ maxLen ∧ cs = [.int .i64 r.1, .int .i64 r.2.1, .string r.2.2] := by
  obtain ⟨xs, k, hk, hxy, hlen, hxl, hf⟩ := DataW.trod_struct Try.underlying43 h
  rw [rsCells18] at hlen
  have hxl : xs.length = 3 := hxl
  match xs, hxl, cs, hlen with
  | [y0, y1, y2], _, [v0, v1, v2], _ =>
    have g0 := hf 0 _ rfl
    have g1 := hf 1 _ rfl
    have g2 := hf 2 _ rfl
    simp [intCells, strCells] at g0 g1 g2
    obtain ⟨K, hK, hx0, hw0⟩ := DataW.trod_int Try.underlying3 g0
    obtain ⟨N, hN, hx2, hw2⟩ := DataW.trod_int Try.underlying3 g1
    obtain ⟨t, hS, hx4, hw4⟩ := DataW.trod_string Try.underlying9 g2
    refine ⟨(K, N, t), hw4, ?_⟩
    rw [(List.cons_eq_cons.1 hK).1, (List.cons_eq_cons.1 hN).1, (List.cons_eq_cons.1 hS).1]
end Go.Proofs.Ytjabbplfbjaenaa
namespace Go.Proofs.Ytjabbplfbjaenaa
open Go.RowKit Go.Maps
open Classical
/-! Regions that draw their order and end in stores over what they read: what only reads is taken first under S; the stores (late) wait for all of it, and behind them S is asked no more. -/
section
variable {P : Program} {ops : Array Oper} {Q : Exit → Act → World → Prop} {md : Region.Mode} {S : World → Prop} {late : Nat → Bool}
theorem getD_setb {l : Array Bool} {i k : Nat} (h : i ≠ k) (d : Bool) : (l.setIfInBounds i true).getD k d = l.getD k d := by
  simp [Array.getD_eq_getD_getElem?, Array.getElem?_setIfInBounds, h]
end
end Go.Proofs.Ytjabbplfbjaenaa
namespace Go.Proofs.Ytjabbplfbjaenaa
open Go.RowKit Go.Maps
open Classical
theorem bsK18 (x : Kl) (w : World) : (Instr.buildSlice 24 1 #[(0, x.val)]).run Try.prog w = .ok (.slice (some ⟨w.heap.size, 0, none⟩) 1 1) (w.alloc (.cells x.cs.toArray 45)) := by unfold Kl.val Kl.cs; go_simp
def slP (r : Int) (x : Kl) : Bool := (decide (x.o.k = 1) || decide (x.o.k = 3)) && decide (x.o.s = r)
end Go.Proofs.Ytjabbplfbjaenaa
namespace Go.Proofs.Ytjabbplfbjaenaa
open Classical
/-! ### Witnesses: the search finds one if there is one; a beginning of a good history is good -/
theorem lck_iff (l : List Kl) (D : List Bool) : lckK l D = true ↔ ∃ j x, l[j]? = some x ∧ ansK x = true ∧ at9 D j = false := by
  unfold lckK lcI
  rw [List.any_eq_true]
  constructor
  · rintro ⟨j, hj, h⟩
    cases hx : l[j]? with
    | none => rw [hx] at h; cases h
    | some x =>
      rw [hx] at h
      simp only [Bool.and_eq_true, Bool.not_eq_true'] at h
      exact ⟨j, x, hx, h.1, h.2⟩
  · rintro ⟨j, x, hx, h1, h2⟩
    refine ⟨j, List.mem_range.2 (List.getElem?_eq_some_iff.1 hx).1, ?_⟩
    rw [hx]
    simp [h1, h2]
theorem at9_set8 (D : List Bool) (q i : Nat) (hq : q < D.length) : at9 (D.set q true) i = (decide (q = i) || at9 D i) := by
  unfold at9
  by_cases h : q = i
  · subst h; simp [hq]
  · simp [h]
theorem at9_D0 (i : Nat) : at9 D0 i = false := by
  unfold at9 D0
  match i with
  | 0 | 1 | 2 | 3 | 4 | 5 | 6 | 7 => rfl
  | i + 8 => simp
/-! ### Calls one by one: one order alone is left -/
structure OneByOne (l : List Kl) : Prop where
  ans : ∀ (i : Nat) (x : Kl), l[i]? = some x → 0 ≤ x.e ∧ x.b < x.e
  nxt : ∀ (i j : Nat) (x y : Kl), i < j → l[i]? = some x → l[j]? = some y → x.e < y.b
def rgt : List Cl → List Kl → Bool
  | _, [] => true
  | L, x :: r => decide (wd L x.o.k x.o.s x.o.v = x.r) && rgt (dnK L x) r
def dnA (L : List Cl) (l : List Kl) : List Cl := l.foldl dnK L
theorem rgt_snoc : ∀ (l : List Kl) (L : List Cl) (x : Kl), rgt L (l ++ [x]) = (rgt L l && decide (wd (dnA L l) x.o.k x.o.s x.o.v = x.r))
  | [], L, x => by
    rw [List.nil_append, rgt, rgt, rgt, Bool.and_true, Bool.true_and]
    exact decide_eq_decide.2 Iff.rfl
  | y :: r, L, x => by
    rw [List.cons_append, rgt, rgt, rgt_snoc r (dnK L y) x, Bool.and_assoc]
    rfl
theorem dnA_snoc (L : List Cl) (l : List Kl) (x : Kl) : dnA L (l ++ [x]) = dnK (dnA L l) x := by simp [dnA]
theorem findSome_only {α : Type} {n i : Nat} {f : Nat → Option α} (hi : i < n) (h : ∀ p, p ≠ i → f p = none) : (List.range n).findSome? f = f i := by
  cases e : (List.range n).findSome? f with
  | none => exact ((List.findSome?_eq_none_iff.1 e) i (List.mem_range.2 hi)).symm
  | some v =>
    obtain ⟨p, _, hp⟩ := List.exists_of_findSome?_eq_some e
    by_cases hpi : p = i
    · subst hpi
      exact hp.symm
    · rw [h p hpi] at hp
      cases hp
theorem late_iff60 (l : List Kl) (D : List Bool) (x : Kl) : lateK l D x = true ↔ ∃ j y, l[j]? = some y ∧ at9 D j = false ∧ prcK y x = true := by
  unfold lateK laI
  rw [List.any_eq_true]
  constructor
  · rintro ⟨j, hj, h⟩
    cases hx : l[j]? with
    | none => rw [hx] at h; cases h
    | some y =>
      rw [hx] at h
      simp only [Bool.and_eq_true, Bool.not_eq_true'] at h
      exact ⟨j, y, hx, h.1, h.2⟩
  · rintro ⟨j, y, hx, h1, h2⟩
    refine ⟨j, List.mem_range.2 (List.getElem?_eq_some_iff.1 hx).1, ?_⟩
    rw [hx]
    simp [h1, h2]
theorem srK_end {l : List Kl} {D : List Bool} {L : List Cl} (k : Nat) (h : lckK l D = false) : srK l k D L = some [] := by
  cases k <;> unfold srK <;> rw [h] <;> rfl
theorem sr_seq {l : List Kl} (hs : OneByOne l) (h8 : l.length ≤ 8) : ∀ (k i : Nat) (D : List Bool) (L : List Cl), D.length = 8 → (∀ j, at9 D j = decide (j < i)) → i ≤ l.length → l.length - i ≤ k → srK l k D L = if rgt L (l.drop i) = true then some (List.range' i (l.length - i)) else none := by
  have fin : ∀ (k i : Nat) (D : List Bool) (L : List Cl), (∀ j, at9 D j = decide (j < i)) → i = l.length → srK l k D L = if rgt L (l.drop i) = true then some (List.range' i (l.length - i)) else none := fun k i D L hD e => by
    subst e
    rw [srK_end, List.drop_length, Nat.sub_self]
    · rfl
    · cases hc : lckK l D with
      | false => rfl
      | true =>
        obtain ⟨j, x, hx, _, h⟩ := (lck_iff l D).1 hc
        rw [hD j, decide_eq_true (List.getElem?_eq_some_iff.1 hx).1] at h
        cases h
  intro k
  induction k with
  | zero => exact fun i D L _ hD hi hk => fin 0 i D L hD (by omega)
  | succ k ih =>
    intro i D L hl hD hi hk
    by_cases e : i = l.length
    · exact fin (k + 1) i D L hD e
    · have hlt : i < l.length := by omega
      obtain ⟨x, hx⟩ : ∃ x, l[i]? = some x := ⟨_, List.getElem?_eq_getElem hlt⟩
      obtain ⟨hx0, hx1⟩ := hs.ans i x hx
      have hlck : lckK l D = true := (lck_iff l D).2 ⟨i, x, hx, decide_eq_true hx0, by rw [hD i]; exact decide_eq_false (Nat.lt_irrefl _)⟩
      have hdrop : l.drop i = x :: l.drop (i + 1) := by
        rw [List.drop_eq_getElem_cons hlt, (List.getElem?_eq_some_iff.1 hx).2]
      have hlate : lateK l D x = false := by
        cases hc : lateK l D x with
        | false => rfl
        | true =>
          obtain ⟨j, y, hy, h1, h2⟩ := (late_iff60 l D x).1 hc
          rw [hD j] at h1
          have hj : i ≤ j := by have := of_decide_eq_false h1; omega
          unfold prcK at h2
          simp only [Bool.and_eq_true, decide_eq_true_eq] at h2
          rcases Nat.lt_or_eq_of_le hj with hj | hj
          · have := hs.nxt i j x y hj hx hy
            have := hs.ans j y hy
            omega
          · subst hj
            rw [hx] at hy
            cases hy
            omega
      have hnx : nxtK l D L i x = decide (wd L x.o.k x.o.s x.o.v = x.r) := by
        unfold nxtK offK
        rw [hlate, hD i, decide_eq_false (Nat.lt_irrefl i), show ansK x = true from decide_eq_true hx0]
        simp
      have key : (List.range l.length).findSome? (fun p => (l[p]?).bind fun x => if nxtK l D L p x then (srK l k (D.set p true) (dnK L x)).map (p :: ·) else none) = if nxtK l D L i x then (srK l k (D.set i true) (dnK L x)).map (i :: ·) else none := by
        rw [findSome_only hlt (fun p hp => ?_), hx]
        · rfl
        · cases hy : l[p]? with
          | none => rfl
          | some y =>
            rw [Option.bind_some]
            have : nxtK l D L p y = false := by
              unfold nxtK
              by_cases hpi : p < i
              · rw [hD p, decide_eq_true hpi]
                simp
              · have hip : i < p := by omega
                have : lateK l D y = true := (late_iff60 l D y).2 ⟨i, x, hx, by rw [hD i]; exact decide_eq_false (Nat.lt_irrefl _), by
                  unfold prcK
                  rw [decide_eq_true hx0, decide_eq_true (hs.nxt i p x y hip hx hy)]
                  rfl⟩
                rw [this]
                simp
            rw [this]
            rfl
      rw [srK, if_pos hlck, key, hnx, hdrop, rgt]
      have hrec := ih (i + 1) (D.set i true) (dnK L x) (by rw [List.length_set]; exact hl) (fun j => by
        rw [at9_set8 _ _ _ (by omega), hD j]
        by_cases h : i = j
        · subst h; simp
        · by_cases h2 : j < i
          · simp [h2]; omega
          · have h3 : ¬ j < i + 1 := by omega
            simp [h, h2, h3]) hlt (by omega)
      rw [hrec]
      have hr : List.range' i (l.length - i) = i :: List.range' (i + 1) (l.length - (i + 1)) := by
        rw [show l.length - i = (l.length - (i + 1)) + 1 by omega, List.range'_succ]
      rw [hr]
      by_cases hw : wd L x.o.k x.o.s x.o.v = x.r
      · rw [decide_eq_true hw]
        by_cases hg : rgt (dnK L x) (l.drop (i + 1)) = true
        · simp [hg]
        · simp [hg]
      · rw [decide_eq_false hw]
        simp
theorem lst_seq {l : List Kl} (hs : OneByOne l) (h8 : l.length ≤ 8) : lst l = if rgt [] l = true then some (List.range' 0 l.length) else none := by
  have := sr_seq hs h8 l.length 0 D0 [] rfl (fun j => by rw [at9_D0]; rfl) (Nat.zero_le _) (by omega)
  rw [List.drop_zero, Nat.sub_zero] at this
  exact this
def opn (x : Kl) : Kl := { x with e := -1, r := (0, 0, ⟨#[]⟩) }
theorem lst_open (l : List Kl) : lst (l.map opn) = some [] := by
  unfold lst
  refine srK_end _ ?_
  cases hc : lckK (l.map opn) D0 with
  | false => rfl
  | true =>
    obtain ⟨j, x, hx, h, _⟩ := (lck_iff _ _).1 hc
    rw [List.getElem?_map] at hx
    cases hy : l[j]? with
    | none => rw [hy] at hx; cases hx
    | some y =>
      rw [hy] at hx
      cases hx
      exact absurd (of_decide_eq_true h) (by show ¬ (0 : Int) ≤ -1; omega)
theorem kcA_mk : ∀ (l p : List Kl), (∀ x ∈ l, mayK x = true) → l.Pairwise (fun x y => ¬ (x.c = y.c ∧ x.n = y.n)) → (∀ x ∈ l, hasK p x.c x.n = false) → kcA p l = 0
  | [], p, _, _, _ => rfl
  | x :: r, p, h1, h2, h3 => by
    rw [kcA, h3 x (List.mem_cons_self ..), h1 x (List.mem_cons_self ..), if_neg (by simp)]
    obtain ⟨h4, h5⟩ := List.pairwise_cons.1 h2
    refine kcA_mk r (p ++ [x]) (fun y hy => h1 y (List.mem_cons_of_mem _ hy)) h5 (fun y hy => ?_)
    rw [hasK_snoc, h3 y (List.mem_cons_of_mem _ hy)]
    have := h4 y hy
    simp only [Bool.false_or, Bool.and_eq_false_iff, decide_eq_false_iff_not]
    by_cases h : x.c = y.c
    · exact .inr (fun h6 => this ⟨h, h6⟩)
    · exact .inl h
theorem kchk_mk {l : List Kl} (h1 : ∀ x ∈ l, mayK x = true) (h2 : l.Pairwise (fun x y => ¬ (x.c = y.c ∧ x.n = y.n))) : kchk l = 0 := kcA_mk l [] h1 h2 (fun x _ => rfl)
theorem srA_seq {l : List Kl} (h0 : kchk l = 0) (h8 : l.length ≤ 8) : srE l = 0 ∧ srA l = lst l := by
  have h : srE l = 0 := by unfold srE; rw [if_neg (by omega), if_neg (by omega)]
  exact ⟨h, by unfold srA; rw [if_neg (by omega)]⟩
end Go.Proofs.Ytjabbplfbjaenaa
namespace Go.Proofs.Ytjabbplfbjaenaa
open Go.ChangeShapes Go.WideShapes Go.ChangeAt Go.RowKit Go.Maps
open Classical
structure Sp where
  o : Opn
  wt : Int
  ls : Int
  rt : Bool
  r : Rs
def Sp.cs (x : Sp) : List Value := [.int .i64 x.o.k, .int .i64 x.o.s, .string x.o.v, .int .i64 x.wt, .int .i64 x.ls, .bool x.rt, .int .i64 x.r.1, .int .i64 x.r.2.1, .string x.r.2.2]
def yP : Lay Sp := ⟨51, 47, 9, 88, Sp.cs, ⟨⟨0, 0, ByteArray.empty⟩, 0, 0, false, (0, 0, ByteArray.empty)⟩⟩
theorem kP : yP.Ok := ⟨by decide, fun x => rfl, fun x u h => by
    simp [yP, Sp.cs] at h
    rcases h with rfl | rfl | rfl | rfl | rfl | rfl | rfl | rfl | rfl <;> rfl, Try.underlying47, ⟨.agg #[.int .i64 0, .int .i64 0, .string ByteArray.empty, .int .i64 0, .int .i64 0, .bool false, .int .i64 0, .int .i64 0, .string ByteArray.empty], by kernel_rfl, rfl⟩⟩
def Sp.fits (x : Sp) : Prop := x.o.fits ∧ x.r.2.2.size ≤ maxLen
theorem spCells : Try.prog.cellsOf 51 = 9 := by kernel_rfl
theorem spBytes : Try.prog.bytesOf 51 = 88 := by kernel_rfl
theorem blCells : Try.prog.cellsOf 4 = 1 := by kernel_rfl
theorem open_spc {H : Type} {enc : TypeId × Value → H} {W : World} {n : Nat} {cs : List Value} {x : DataW H × List MemPlace} (h : DataW.trod enc Try.prog W 0 (fun _ => true) true n 51 cs = some x) :
    ∃ p : Sp, p.fits ∧ cs = p.cs := by
  obtain ⟨xs, k, hk, hxy, hlen, hxl, hf⟩ := DataW.trod_struct Try.underlying51 h
  rw [spCells] at hlen
  have hxl : xs.length = 5 := hxl
  match xs, hxl, cs, hlen with
  | [y0, y1, y2, y3, y4], _, [v0, v1, v2, v3, v4, v5, v6, v7, v8], _ =>
    have g0 := hf 0 _ rfl
    have g1 := hf 1 _ rfl
    have g2 := hf 2 _ rfl
    have g3 := hf 3 _ rfl
    have g4 := hf 4 _ rfl
    simp [intCells, opCells, rsCells18, blCells] at g0 g1 g2 g3 g4
    obtain ⟨o, ho, e⟩ := open_opc g0
    obtain ⟨b, hB, hx6, hw6⟩ := DataW.trod_int Try.underlying3 g1
    obtain ⟨en, hEn, hx7, hw7⟩ := DataW.trod_int Try.underlying3 g2
    obtain ⟨rt, hR, _⟩ := DataW.trod_bool Try.underlying4 g3
    obtain ⟨r, hr, e5⟩ := open_rsc18 g4
    refine ⟨⟨o, b, en, rt, r⟩, ⟨ho, hr⟩, ?_⟩
    have e6 := (List.cons_eq_cons.1 hB).1
    have e7 := (List.cons_eq_cons.1 hEn).1
    have e8 := (List.cons_eq_cons.1 hR).1
    simp at e e5
    obtain ⟨e2, e3, e4⟩ := e
    obtain ⟨f2, f3, f4⟩ := e5
    subst e2 e3 e4 e6 e7 e8 f2 f3 f4
    rfl
def CameSp (W : World) (a : Option Addr) (n c : Nat) : Prop := ∃ P : List Sp, SlY yP W a n c P ∧ (∀ x ∈ P, x.fits) ∧ n * 88 ≤ 140737488351232
theorem open_sps {H : Type} {enc : TypeId × Value → H} {W : World} {base : Nat} {v : Value} {d : DataW H} {p : List MemPlace} (hv : Value.okWide Try.prog W .any base 47 v) (h : DataW.Trod enc Try.prog W 0 (fun _ => true) true 47 v d p)
    (hs : ∀ el sp, d = .slice el sp → (el.length + sp.length) * Try.prog.bytesOf 51 ≤ reachBytes) : ∃ a len cap, v = .slice a len cap ∧ CameSp W a len cap := by
  haveI : Inhabited Sp := ⟨⟨⟨0, 0, ByteArray.empty⟩, 0, 0, false, (0, 0, ByteArray.empty)⟩⟩
  obtain ⟨a, n, c, rfl, P, h1, h2, el, sp, e1, _, e3⟩ := open_rows18 kP Sp.fits spCells (fun h => open_spc h) hv h
  refine ⟨a, n, c, rfl, P, h1, h2, ?_⟩
  rcases e3 with e3 | e3
  · omega
  · have := hs el sp e3
    rw [spBytes, e1, Nat.add_mul] at this
    simp only [reachBytes] at this
    omega
theorem wd_size {L : List Cl} (h : Ok L) (k s : Int) (v : ByteArray) : (wd L k s v).2.2.size ≤ 64 := by
  have g : ∀ z, gv L s = some z → z.size ≤ 64 := fun z hz => (h.may _ (gv_mem hz)).2.2
  unfold wd
  by_cases hc : ck k s v ≠ 0
  · rw [if_pos hc]; exact Nat.zero_le _
  · rw [if_neg hc]
    have hv : (k = 1 ∨ k = 2) → v.size ≤ 64 := fun hk => by
      have hc : ck k s v = 0 := by omega
      rcases Nat.lt_or_ge 64 v.size with h | h
      · exfalso
        unfold ck at hc
        rcases hk with rfl | rfl
        · rw [if_pos (.inl rfl)] at hc
          by_cases hs : s < 0 ∨ 1024 ≤ s
          · rw [if_pos hs] at hc; omega
          · rw [if_neg hs, if_pos rfl, if_pos h] at hc; omega
        · rw [if_neg (by omega), if_pos (.inl rfl)] at hc
          by_cases hs : s ≠ 0
          · rw [if_pos hs] at hc; omega
          · rw [if_neg hs, if_pos rfl, if_pos h] at hc; omega
      · exact h
    by_cases h1 : k = 1
    · rw [if_pos h1]
      cases e : gv L s with
      | none => exact hv (.inl h1)
      | some z => exact g z e
    · rw [if_neg h1]
      by_cases h2 : k = 2
      · rw [if_pos h2]
        split
        · exact hv (.inr h2)
        · exact Nat.zero_le _
      · rw [if_neg h2]
        by_cases h3 : k = 3
        · rw [if_pos h3]
          cases e : gv L s with
          | none => exact Nat.zero_le _
          | some z => exact g z e
        · rw [if_neg h3]
          exact Nat.zero_le _
end Go.Proofs.Ytjabbplfbjaenaa
namespace Go.Proofs.Ytjabbplfbjaenaa
open Go.RowKit Go.Maps
open Classical
/-! ### Locality -/
def fx (l : List Kl) (r : Int) (i : Nat) : Nat := ((l.take i).filter (slP r)).length
end Go.Proofs.Ytjabbplfbjaenaa
namespace Go.Proofs.Ytjabbplfbjaenaa
open Go.RowKit Go.Maps
open Classical
/-! A region that draws its order, whatever it does: each operation by itself, in whatever frame and world, from what those tell that it waits for; behind all of them what each tells holds. -/
theorem look_mem {L : List (Nat × Value)} {j : Nat} {v : Value} (h : look L j = some v) : j ∈ L.map Prod.fst := by
  induction L with
  | nil => cases h
  | cons x r ih =>
    obtain ⟨k, y⟩ := x
    unfold look at h
    cases hb : Nat.beq k j with
    | true => rw [Nat.eq_of_beq_eq_true hb]; exact List.mem_cons_self ..
    | false => rw [hb] at h; exact List.mem_cons_of_mem _ (ih h)
theorem Rp.ch {T T' : Array Value} {n : Nat} {L : List (Nat × Value)} (h : Rp T n L) (hz : T'.size = n) (hk : ∀ k ∈ L.map Prod.fst, T'[k]? = T[k]?) : Rp T' n L := ⟨hz, fun j v e => (hk j (look_mem e)).trans (h.at_ j v e)⟩
theorem Upd.tr20 {S R : Nat → Prop} {a b c : World} (h : Upd S a b) (k : Upd R b c) (hs : ∀ i, i < a.heap.size → R i → S i) : Upd S a c :=
  ⟨k.os.trans h.os, k.tape.trans h.tape, k.output.trans h.output, Nat.le_trans h.size k.size, fun i hi hn => (k.block i (Nat.lt_of_lt_of_le hi h.size) (fun hr => hn (hs i hi hr))).trans (h.block i hi hn)⟩
theorem Upd.sub20 {S R : Nat → Prop} {a b : World} (h : Upd S a b) (hs : ∀ i, S i → R i) : Upd R a b := ⟨h.os, h.tape, h.output, h.size, fun i hi hn => h.block i hi (fun hr => hn (hs i hr))⟩
theorem Upd.drew20 {S : Nat → Prop} {a w : World} (h : Upd S a w) : Upd S a w.drew := ⟨h.os, h.tape, h.output, h.size, h.block⟩
def Does (o : Oper) (T : Array Value) (df : List Deferred) (w : World) (K : Value → World → Prop) : Prop :=
  (∃ V w', (execOp (⟨T, df⟩ : Act).eval o).run Try.prog w = .ok (.value V) w' ∧ K V w') ∨
  (∃ w', (execOp (⟨T, df⟩ : Act).eval o).run Try.prog w = .ok .skip w' ∧ K undef w') ∨
  (∃ fid args R, (execOp (⟨T, df⟩ : Act).eval o).run Try.prog w = .ok (.enter fid args) w ∧ Calls Try.prog fid args w R ∧ ∀ e w', R e w' → ∃ V, e = .returned V ∧ K V w')
def hasDep (o : Oper) (j : Nat) : Bool := o.after.toList.any fun e => Region.binds .any e && e.on == j
def ptr (T : Array Value) (k : Nat) : Nat := match T[k]? with
  | some (.pointer (some a)) => a.block
  | _ => 0
def dstIs (o : Oper) (k : Nat) : Bool := match o.dst with
  | none => false
  | some d => d == k
structure Nx (o : Oper) (n : Nat) (T T' : Array Value) (V : Value) : Prop where
  z : T'.size = n
  k : ∀ k, dstIs o k = false → T'[k]? = T[k]?
  s : ∀ d, o.dst = some d → T'[d]? = some V
def okU (l : List Oper) (u : Nat → Nat → Bool) (i j : Nat) : Bool := (List.range l.length).all fun k => !u j k || (k == i) || match l[k]? with
  | none => false
  | some ok => hasDep ok i
def Stp (l : List Oper) (u : Nat → Nat → Bool) (n : Nat) (B : Array Value → World → Prop) (P C : Nat → Array Value → World → Prop) (E : Nat → Array Value → Nat → Prop) (al : Nat → Bool) (i : Nat) (o : Oper) : Prop :=
  ∀ T df w, T.size = n → B T w → (∀ j, hasDep o j = true → okU l u i j = true → P j T w) → (∀ s os, l[s]? = some os → (s = i ∨ hasDep os i = true) → C s T w) →
    ∃ c, Region.wanted o (yielded l.toArray T) = c ∧ (c = true → Does o T df w fun V w' => Upd (E i T) w w' ∧ (al i = true → ∃ a, V = .pointer (some a) ∧ w.heap.size ≤ a.block ∧ a.block < w'.heap.size) ∧ ∀ T', Nx o n T T' V → P i T' w') ∧ (c = false → al i = false) ∧ (c = false → ∀ T', Nx o n T T' undef → P i T' w)
def StB (n : Nat) (F : Array Value → World → Prop) (sl : List Nat) (E : Array Value → Nat → Prop) (D : Array Value → Prop) : Prop :=
  ∀ T T' w w', F T w → D T → T'.size = n → (∀ k ∈ sl, T'[k]? = T[k]?) → Upd (E T) w w' → F T' w'
def Apt (l : List Oper) (al : Nat → Bool) (i j : Nat) (T : Array Value) : Prop :=
  ∀ oi oj a b d e, l[i]? = some oi → l[j]? = some oj → al a = true → al b = true → a ≠ b → (a = i ∨ hasDep oi a = true) → hasDep oj b = true → (l[a]?.bind (·.dst)) = some d → (l[b]?.bind (·.dst)) = some e → ptr T d ≠ ptr T e
def AllI (f : Nat → Oper → Prop) : Nat → List Oper → Prop
  | _, [] => True
  | k, o :: r => f k o ∧ AllI f (k + 1) r
theorem AllI.get {f : Nat → Oper → Prop} : ∀ {l : List Oper} {k i : Nat} {o : Oper}, AllI f k l → l[i]? = some o → f (k + i) o
  | [], _, _, _, _, h => by simp at h
  | a :: r, k, 0, o, H, h => by simp at h; subst h; exact H.1
  | a :: r, k, i + 1, o, H, h => by
    have := AllI.get (i := i) H.2 (by simpa using h)
    rwa [show k + 1 + i = k + (i + 1) by omega] at this
def chkP (l : List Oper) (n : Nat) (sl slC : Nat → List Nat) (slB : List Nat) (al : Nat → Bool) : Bool :=
  (List.range l.length).all fun j => match l[j]? with
    | none => false
    | some o => (o.after.toList.all fun e => !Region.binds .any e || decide (e.on < j)) && match o.dst with
      | none => !al j
      | some d => decide (d < n) && !slB.contains d && (List.range l.length).all fun i => (i == j) || ((!(sl i).contains d || match l[i]? with
          | none => false
          | some oi => hasDep oi j) && !(slC i).contains d && (!al i || match l[i]? with
          | none => false
          | some oi => !dstIs oi d))
theorem countP_same {f g : Nat → Bool} : ∀ {l : List Nat}, (∀ j ∈ l, g j = f j) → l.countP g = l.countP f
  | [], _ => rfl
  | a :: r, h => by
    rw [List.countP_cons, List.countP_cons, countP_same (fun j hj => h j (List.mem_cons_of_mem _ hj)), h a (List.mem_cons_self ..)]
theorem countP_one {f g : Nat → Bool} {i : Nat} (hf : f i = true) (hg : g i = false) (hs : ∀ j, j ≠ i → g j = f j) : ∀ {l : List Nat}, l.Nodup → i ∈ l → l.countP g + 1 = l.countP f
  | [], _, h => by cases h
  | a :: r, hn, h => by
    rw [List.countP_cons, List.countP_cons]
    have hn2 := List.nodup_cons.1 hn
    by_cases e : a = i
    · subst e
      rw [countP_same (f := f) (g := g) (fun j hj => hs j (by rintro rfl; exact hn2.1 hj)), hf, hg]
      simp
    · have hi : i ∈ r := by
        rcases List.mem_cons.1 h with h | h
        · exact absurd h.symm e
        · exact h
      have := countP_one hf hg hs hn2.2 hi
      rw [hs a e]
      omega
theorem exists_min {p : Nat → Prop} {k : Nat} (h : p k) : ∃ i, p i ∧ ∀ j, j < i → ¬ p j := by
  induction k using Nat.strongRecOn with
  | _ k ih =>
    by_cases e : ∃ j, j < k ∧ p j
    · obtain ⟨j, hj, hp⟩ := e
      exact ih j hj hp
    · exact ⟨k, h, fun j hj hp => e ⟨j, hj, hp⟩⟩
section
variable {l : List Oper} {n : Nat} {B : Array Value → World → Prop} {P C : Nat → Array Value → World → Prop} {E : Nat → Array Value → Nat → Prop} {sl slC : Nat → List Nat} {slB : List Nat} {u : Nat → Nat → Bool} {al : Nat → Bool} {Q : Exit → Act → World → Prop} {df : List Deferred}
theorem hasDep_iff {o : Oper} {j : Nat} : hasDep o j = true ↔ ∃ e ∈ o.after, Region.binds .any e = true ∧ e.on = j := by
  unfold hasDep
  rw [List.any_eq_true]
  constructor
  · rintro ⟨e, he, h⟩
    simp only [Bool.and_eq_true, beq_iff_eq] at h
    exact ⟨e, by simpa using he, h.1, h.2⟩
  · rintro ⟨e, he, h1, h2⟩
    exact ⟨e, by simpa using he, by simp [h1, h2]⟩
theorem chk_lt (h : chkP l n sl slC slB al = true) {j : Nat} {o : Oper} (ho : l[j]? = some o) {i : Nat} (hd : hasDep o i = true) : i < j := by
  have hl : j < l.length := (List.getElem?_eq_some_iff.1 ho).1
  have := List.all_eq_true.1 h j (List.mem_range.2 hl)
  rw [ho] at this
  simp only [Bool.and_eq_true] at this
  obtain ⟨e, he, hb, rfl⟩ := hasDep_iff.1 hd
  have := List.all_eq_true.1 this.1 e (by simpa using he)
  simpa [hb] using this
theorem chk_dst (h : chkP l n sl slC slB al = true) {j : Nat} {o : Oper} (ho : l[j]? = some o) {d : Nat} (hd : o.dst = some d) : d < n ∧ d ∉ slB ∧ ∀ i oi, l[i]? = some oi → i ≠ j → (d ∈ sl i → hasDep oi j = true) ∧ d ∉ slC i ∧ (al i = true → dstIs oi d = false) := by
  have hl : j < l.length := (List.getElem?_eq_some_iff.1 ho).1
  have := List.all_eq_true.1 h j (List.mem_range.2 hl)
  rw [ho] at this
  simp only [Bool.and_eq_true, hd, decide_eq_true_eq, Bool.not_eq_true', List.contains_eq_mem, decide_eq_false_iff_not] at this
  refine ⟨this.2.1.1, this.2.1.2, fun i oi hi hne => ?_⟩
  have h2 := List.all_eq_true.1 this.2.2 i (List.mem_range.2 (List.getElem?_eq_some_iff.1 hi).1)
  rw [hi] at h2
  simp only [Bool.or_eq_true, Bool.and_eq_true, beq_iff_eq, Bool.not_eq_true', decide_eq_false_iff_not] at h2
  rcases h2 with h2 | h2
  · exact absurd h2 hne
  · exact ⟨fun hm => h2.1.1.resolve_left (fun hn => hn hm), h2.1.2, fun ha => h2.2.resolve_left (by rw [ha]; decide)⟩
theorem put_nx {o : Oper} {T : Array Value} {V : Value} (hz : T.size = n) (hd : ∀ d, o.dst = some d → d < n) : ∃ T', (⟨T, df⟩ : Act).put o.dst V = ⟨T', df⟩ ∧ Nx o n T T' V := by
  cases h : o.dst with
  | none => exact ⟨T, rfl, hz, fun _ _ => rfl, fun d hd => by rw [h] at hd; cases hd⟩
  | some d =>
    refine ⟨T.setIfInBounds d V, rfl, by simp [hz], fun k hk => at_set_ne _ ?_, fun d' h' => ?_⟩
    · rintro rfl
      unfold dstIs at hk
      rw [h] at hk
      simp at hk
    · rw [h] at h'
      cases h'
      have := hd d h
      exact at_set _ (by rw [hz]; exact this)
theorem getD_tf {L : Array Bool} {i : Nat} (h : i < L.size) : L.getD i true = L.getD i false := by
  rw [Array.getD_eq_getD_getElem?, Array.getD_eq_getD_getElem?, Array.getElem?_eq_getElem h]
  rfl
structure AlI (l : List Oper) (al : Nat → Bool) (listed : Array Bool) (T : Array Value) (w : World) : Prop where
  lt : ∀ a o d, l[a]? = some o → al a = true → listed.getD a false = true → o.dst = some d → ptr T d < w.heap.size
  ne : ∀ a b oa ob d e, l[a]? = some oa → l[b]? = some ob → al a = true → al b = true → a ≠ b → listed.getD a false = true → listed.getD b false = true → oa.dst = some d → ob.dst = some e → ptr T d ≠ ptr T e
theorem vp_run (hchk : chkP l n sl slC slB al = true) (stB : ∀ j, StB n B slB (E j) (fun _ => True)) (stP : AllI (fun i _ => ∀ j, j ≠ i → u i j = false → StB n (P i) (sl i) (E j) (Apt l al i j)) 0 l) (stC : AllI (fun i _ => ∀ j, j ≠ i → StB n (C i) (slC i) (E j) (fun _ => True)) 0 l)
    (H : AllI (Stp l u n B P C E al) 0 l) (fin : ∀ T w, T.size = n → B T w → (∀ i o, l[i]? = some o → (∀ k, u i k = false) → P i T w) → (∀ a b oa ob d e, l[a]? = some oa → l[b]? = some ob → al a = true → al b = true → a ≠ b → oa.dst = some d → ob.dst = some e → ptr T d ≠ ptr T e) → Q .normal ⟨T, df⟩ w) :
    ∀ (fuel : Nat) (listed : Array Bool) (T : Array Value) (w : World), listed.size = l.length → (List.range l.length).countP (fun i => !listed.getD i false) ≤ fuel → T.size = n → B T w →
      (∀ i o, l[i]? = some o → listed.getD i false = true → ((∀ k, u i k = true → listed.getD k false = false) → P i T w) ∧ ∀ j, hasDep o j = true → listed.getD j false = true) → (∀ s o, l[s]? = some o → listed.getD s false = false → C s T w) → AlI l al listed T w →
      wpAny Try.prog .any l.toArray (NoPanic Q) fuel listed ⟨T, df⟩ w := by
  have done : ∀ (listed : Array Bool) (T : Array Value) (w : World), listed.size = l.length → T.size = n → B T w → (∀ i o, l[i]? = some o → listed.getD i false = true → ((∀ k, u i k = true → listed.getD k false = false) → P i T w) ∧ ∀ j, hasDep o j = true → listed.getD j false = true) → AlI l al listed T w → Region.ready .any l.toArray listed = [] → NoPanic Q .normal ⟨T, df⟩ w := by
    intro listed T w hls hz hB hP hA hr
    have hall : ∀ i o, l[i]? = some o → listed.getD i false = true := by
      intro i o ho
      by_cases hl : listed.getD i false = true
      · exact hl
      · exfalso
        obtain ⟨i, ⟨o, ho, hl⟩, hmin⟩ := exists_min (p := fun i => ∃ o, l[i]? = some o ∧ ¬ listed.getD i false = true) ⟨o, ho, hl⟩
        have hlt := (List.getElem?_eq_some_iff.1 ho).1
        have hmem : i ∈ Region.ready .any l.toArray listed := mem_ready.2 ⟨by
          rw [getD_tf (by omega)]
          simpa using hl, o, by simpa using ho, fun e he hb => ?_⟩
        · rw [hr] at hmem; cases hmem
        · have hd : hasDep o e.on = true := hasDep_iff.2 ⟨e, he, hb, rfl⟩
          have h1 := chk_lt hchk ho hd
          have := hmin e.on h1
          by_cases hx : listed.getD e.on false = true
          · exact hx
          · exact absurd ⟨_, List.getElem?_eq_getElem (by omega), hx⟩ this
    exact NoPanic.normal (fin T w hz hB (fun i o ho hu => (hP i o ho (hall i o ho)).1 (fun k hk => by rw [hu k] at hk; cases hk)) (fun a b oa ob d e h1 h2 h3 h4 h5 h6 h7 => hA.ne a b oa ob d e h1 h2 h3 h4 h5 (hall a oa h1) (hall b ob h2) h6 h7))
  intro fuel
  induction fuel with
  | zero =>
    intro listed T w hls hc hz hB hP hC hA
    have hr : Region.ready .any l.toArray listed = [] := by
      refine List.eq_nil_iff_forall_not_mem.2 (fun i hi => ?_)
      obtain ⟨h1, o, ho, h2⟩ := mem_ready.1 hi
      have hlt : i < l.length := by simpa using (Array.getElem?_eq_some_iff.1 ho).1
      have h3 : listed.getD i false = false := by rw [← getD_tf (by omega)]; exact h1
      have := (List.countP_pos_iff (p := fun i => !listed.getD i false)).2 ⟨i, List.mem_range.2 hlt, show (!listed.getD i false) = true by rw [h3]; rfl⟩
      omega
    exact ⟨hr, done listed T w hls hz hB hP hA hr⟩
  | succ fuel ih =>
    intro listed T w hls hc hz hB hP hC hA
    refine ⟨fun hr => done listed T w hls hz hB hP hA hr, fun i hi => ?_⟩
    obtain ⟨h1, o, ho, h2⟩ := mem_ready.1 hi
    have ho' : l[i]? = some o := by simpa using ho
    have hlt : i < l.length := (List.getElem?_eq_some_iff.1 ho').1
    have h3 : listed.getD i false = false := by rw [← getD_tf (by omega)]; exact h1
    have hset : ∀ j, j ≠ i → (listed.setIfInBounds i true).getD j false = listed.getD j false := fun j hj => getD_setb (fun e => hj e.symm) false
    have hseti : (listed.setIfInBounds i true).getD i false = true := by
      rw [Array.getD_eq_getD_getElem?, Array.getElem?_setIfInBounds_self_of_lt (by omega)]
      rfl
    have hcount : (List.range l.length).countP (fun j => !(listed.setIfInBounds i true).getD j false) ≤ fuel := by
      have := countP_one (f := fun j => !listed.getD j false) (g := fun j => !(listed.setIfInBounds i true).getD j false) (i := i) (by simp only [h3]; rfl) (by simp only [hseti]; rfl) (fun j hj => by simp only [hset j hj]) List.nodup_range (List.mem_range.2 hlt)
      omega
    have hS := (H.get ho')
    rw [Nat.zero_add] at hS
    have hdep : ∀ j, hasDep o j = true → listed.getD j false = true := fun j hj => by
      obtain ⟨e, he, hb, rfl⟩ := hasDep_iff.1 hj
      exact h2 e he hb
    have hun : ∀ s os, l[s]? = some os → hasDep os i = true → listed.getD s false = false := fun s os hs hd => by
      by_cases hx : listed.getD s false = true
      · have := (hP s os hs hx).2 i hd
        rw [h3] at this
        cases this
      · simpa using hx
    have hdP : ∀ j, hasDep o j = true → okU l u i j = true → P j T w := fun j hj hok => by
      have hc := chk_lt hchk ho' hj
      refine (hP j (l[j]'(by omega)) (List.getElem?_eq_getElem _) (hdep j hj)).1 (fun k hk => ?_)
      by_cases hkl : k < l.length
      · have h2 := List.all_eq_true.1 hok k (List.mem_range.2 hkl)
        rw [List.getElem?_eq_getElem hkl] at h2
        simp only [hk, Bool.not_true, Bool.false_or, Bool.or_eq_true, beq_iff_eq] at h2
        rcases h2 with rfl | hd
        · exact h3
        · exact hun k _ (List.getElem?_eq_getElem hkl) hd
      · rw [Array.getD_eq_getD_getElem?, Array.getElem?_eq_none (by omega)]
        rfl
    obtain ⟨c, hw, ht, hf0, hf⟩ := hS T df w hz hB hdP (fun s os hs hor => hC s os hs (by
      rcases hor with rfl | hd
      · exact h3
      · exact hun s os hs hd))
    have next : ∀ V w', Upd (E i T) w w' → (al i = true → ∃ a, V = .pointer (some a) ∧ w.heap.size ≤ a.block ∧ a.block < w'.heap.size) → (∀ T', Nx o n T T' V → P i T' w') → wpAny Try.prog .any l.toArray (NoPanic Q) fuel (listed.setIfInBounds i true) ((⟨T, df⟩ : Act).put o.dst V) w' := by
      intro V w' hu hal hPi
      obtain ⟨T', hT, hN⟩ := put_nx (df := df) (V := V) hz (fun d hd => (chk_dst hchk ho' hd).1)
      rw [hT]
      have keep : ∀ k, (∀ d, o.dst = some d → d ≠ k) → T'[k]? = T[k]? := fun k hk => hN.k k (by
        unfold dstIs
        cases hd : o.dst with
        | none => rfl
        | some d => simpa using hk d hd)
      have keepA : ∀ a oa d, l[a]? = some oa → al a = true → a ≠ i → oa.dst = some d → ptr T' d = ptr T d := fun a oa d ha hal2 hne hd => by
        unfold ptr
        rw [keep d (fun d2 hd2 e => by
          have := ((chk_dst hchk ho' hd2).2.2 a oa ha hne).2.2 hal2
          unfold dstIs at this
          rw [hd, e] at this
          simp at this)]
      have newA : ∀ d, al i = true → o.dst = some d → w.heap.size ≤ ptr T' d ∧ ptr T' d < w'.heap.size := fun d h1 h2 => by
        obtain ⟨a, rfl, ha, hb⟩ := hal h1
        unfold ptr
        rw [hN.s d h2]
        exact ⟨ha, hb⟩
      refine ih (listed.setIfInBounds i true) T' w' (by simp [hls]) hcount hN.z (stB i T T' w w' hB trivial hN.z (fun k hk => keep k (fun d hd e => (chk_dst hchk ho' hd).2.1 (e ▸ hk))) hu) (fun j oj hj hl => ?_) (fun s os hs hl => ?_) ⟨fun a oa d ha hal2 hl hd => ?_, fun a b oa ob d e ha hb ha2 hb2 hne hla hlb hd he => ?_⟩
      · by_cases e : j = i
        · subst e
          rw [ho'] at hj
          cases hj
          refine ⟨fun _ => hPi T' hN, fun k hk => ?_⟩
          have := chk_lt hchk ho' hk
          rw [hset k (by omega)]
          exact hdep k hk
        · rw [hset j e] at hl
          have hj2 := hP j oj hj hl
          refine ⟨fun hun2 => ?_, fun k hk => ?_⟩
          · have hst := stP.get hj
            rw [Nat.zero_add] at hst
            have huj : u j i = false := by
              cases hx : u j i with
              | false => rfl
              | true => have := hun2 i hx; rw [hseti] at this; cases this
            refine hst i (fun h => e h.symm) huj T T' w w' (hj2.1 (fun k hk => ?_)) (fun oi2 oj2 a b d f h1 h2 ha hb hab hda hdb hd hf => ?_) hN.z (fun k hk => keep k (fun d hd e2 => ?_)) hu
            · have := hun2 k hk
              by_cases e4 : k = i
              · subst e4; exact h3
              · rwa [hset k e4] at this
            · rw [hj] at h1
              cases h1
              rw [ho'] at h2
              cases h2
              cases hla : l[a]? with
              | none => rw [hla] at hd; cases hd
              | some oa =>
                cases hlb : l[b]? with
                | none => rw [hlb] at hf; cases hf
                | some ob =>
                  rw [hla] at hd
                  rw [hlb] at hf
                  refine hA.ne a b oa ob d f hla hlb ha hb hab ?_ (hdep b hdb) hd hf
                  rcases hda with rfl | hda
                  · exact hl
                  · exact hj2.2 a hda
            · have := ((chk_dst hchk ho' hd).2.2 j oj hj e).1 (e2 ▸ hk)
              have := hj2.2 i this
              rw [h3] at this
              cases this
          · by_cases e3 : k = i
            · subst e3; exact hseti
            · rw [hset k e3]; exact hj2.2 k hk
      · by_cases e : s = i
        · subst e; rw [hseti] at hl; cases hl
        · rw [hset s e] at hl
          have hst := stC.get hs
          rw [Nat.zero_add] at hst
          exact hst i (fun h => e h.symm) T T' w w' (hC s os hs hl) trivial hN.z (fun k hk => keep k (fun d hd e2 => ((chk_dst hchk ho' hd).2.2 s os hs e).2.1 (e2 ▸ hk))) hu
      · by_cases e : a = i
        · subst e
          rw [ho'] at ha
          cases ha
          exact (newA d hal2 hd).2
        · rw [hset a e] at hl
          rw [keepA a oa d ha hal2 e hd]
          exact Nat.lt_of_lt_of_le (hA.lt a oa d ha hal2 hl hd) hu.size
      · by_cases ea : a = i
        · subst ea
          rw [ho'] at ha
          cases ha
          have eb : b ≠ a := fun h => hne h.symm
          rw [hset b eb] at hlb
          rw [keepA b ob e hb hb2 eb he]
          have := hA.lt b ob e hb hb2 hlb he
          have := (newA d ha2 hd).1
          omega
        · rw [hset a ea] at hla
          rw [keepA a oa d ha ha2 ea hd]
          by_cases eb : b = i
          · subst eb
            rw [ho'] at hb
            cases hb
            have := hA.lt a oa d ha ha2 hla hd
            have := (newA e hb2 he).1
            omega
          · rw [hset b eb] at hlb
            rw [keepA b ob e hb hb2 eb he]
            exact hA.ne a b oa ob d e ha hb ha2 hb2 hne hla hlb hd he
    unfold wpOp
    rw [show l.toArray[i]? = some o from ho]
    simp only
    rw [hw]
    cases c with
    | false => exact next undef w (Upd.refl _ _) (fun h => by rw [hf0 rfl] at h; cases h) (fun T' hN => hf rfl T' hN)
    | true =>
      simp only [if_true]
      refine .inl ?_
      unfold Oper.wp
      rcases ht rfl with ⟨V, w', he, hu, ha, hp⟩ | ⟨w', he, hu, ha, hp⟩ | ⟨fid, args, R, he, hcall, hR⟩
      · rw [he, Oper.upon_value]; exact next V w' hu ha hp
      · rw [he, Oper.upon_skip]; exact next undef w' hu ha hp
      · rw [he, Oper.upon_enter]
        refine hcall.mono ?_
        intro e w' hr
        obtain ⟨V, rfl, hu, ha, hp⟩ := hR e w' hr
        exact next V w' hu ha hp
theorem vp_start {id : Nat} {T : Array Value} {w : World} (n : Nat) (B : Array Value → World → Prop) (P C : Nat → Array Value → World → Prop) (E : Nat → Array Value → Nat → Prop) (sl slC : Nat → List Nat) (slB : List Nat) (u : Nat → Nat → Bool) (al : Nat → Bool) (hm : Try.prog.follows .mixedOrders = true) (hchk : chkP l n sl slC slB al = true) (hz : T.size = n) (hB : B T w.drew) (hC : AllI (fun i _ => C i T w.drew) 0 l)
    (stB : ∀ j, StB n B slB (E j) (fun _ => True)) (stP : AllI (fun i _ => ∀ j, j ≠ i → u i j = false → StB n (P i) (sl i) (E j) (Apt l al i j)) 0 l) (stC : AllI (fun i _ => ∀ j, j ≠ i → StB n (C i) (slC i) (E j) (fun _ => True)) 0 l)
    (H : AllI (Stp l u n B P C E al) 0 l) (fin : ∀ T w, T.size = n → B T w → (∀ i o, l[i]? = some o → (∀ k, u i k = false) → P i T w) → (∀ a b oa ob d e, l[a]? = some oa → l[b]? = some ob → al a = true → al b = true → a ≠ b → oa.dst = some d → ob.dst = some e → ptr T d ≠ ptr T e) → Q .normal ⟨T, df⟩ w) : (Code.region id l.toArray true).wp Try.prog Q ⟨T, df⟩ w := by
  refine wp_region_noPanic (wp_region_any hm ?_)
  have hno : ∀ i, ¬ (Array.replicate l.length false).getD i false = true := fun i hl => by
    rw [Array.getD_eq_getD_getElem?, Array.getElem?_replicate] at hl
    split at hl <;> simp at hl
  have := vp_run (df := df) hchk stB stP stC H fin l.length (Array.replicate l.length false) T w.drew (by simp) (by have := List.countP_le_length (p := fun i => !(Array.replicate l.length false).getD i false) (l := List.range l.length); rw [List.length_range] at this; exact this) hz hB (fun i o ho hl => absurd hl (hno i)) (fun s o hs _ => by have := hC.get hs; rwa [Nat.zero_add] at this) ⟨fun a o d _ _ hl => absurd hl (hno a), fun a b _ _ _ _ _ _ _ _ _ hl => absurd hl (hno a)⟩
  simpa using this
end
end Go.Proofs.Ytjabbplfbjaenaa
