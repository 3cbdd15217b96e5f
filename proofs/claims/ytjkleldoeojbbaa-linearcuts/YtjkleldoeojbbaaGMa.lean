import Derived.Test.YtjkleldoeojbbaaGLi
namespace Go.Proofs.Ytjkleldoeojbbaa
open Go.RowKit
set_option linter.unusedVariables false

theorem gv_take_succ {D : List Cl} {k : Nat} {d : Cl} {s : Int} (hd : D[k]? = some d) (h : gv (D.take k) s = none) : gv (D.take (k + 1)) s = if d.1 = s then some d.2 else none := by
  have e : D.take (k + 1) = D.take k ++ [d] := by rw [List.take_add_one, hd]; rfl
  rw [e]
  unfold gv at h ⊢
  rw [List.find?_append]
  cases hf : (D.take k).find? (fun p => p.1 == s) with
  | some x => simp [hf] at h
  | none => by_cases hc : d.1 = s <;> simp [hc]
theorem gv_mono {D : List Cl} {k : Nat} {s : Int} {v : ByteArray} (h : gv (D.take k) s = some v) : gv D s = some v := by
  have e : D = D.take k ++ D.drop k := (List.take_append_drop k D).symm
  rw [e]
  unfold gv at h ⊢
  rw [List.find?_append]
  cases hf : (D.take k).find? (fun p => p.1 == s) with
  | some x => simpa [hf] using h
  | none => simp [hf] at h
set_option maxRecDepth 100000 in
set_option maxHeartbeats 1000000 in
theorem refget_any (D : List Cl) (a : Option Addr) (c : Nat) (s : Int) (w : World) (h : SlC w (.slice a D.length c) D a c) :
    Calls Try.prog 63 #[.slice a D.length c, .int .i64 s] w fun e w' => e = .returned (.tuple #[.string ((gv D s).getD ByteArray.empty), .bool (gv D s).isSome]) ∧ w' = w := by
  have hmx := h.max
  have hcap := h.cap
  unfold maxLen at hmx
  have hh := hide h
  clear h
  go_enter Try.func63, Try.ntmps63
  go_wp2
  go_loopw [6] (fun i wr => ∃ k : Nat, i = .int .i64 (k : Int) ∧ k ≤ D.length ∧ gv (D.take k) s = none ∧ wr = w) (fun i _ => D.length - (intOf i).toNat)
  case atStart => exact ⟨0, rfl, Nat.zero_le _, rfl, rfl⟩
  case round =>
    obtain ⟨k, rfl, hk, hn, rfl⟩ := hrel
    by_cases hlt : k < D.length
    · have hg : D[k]? = some D[k] := List.getElem?_eq_getElem hlt
      have hne : D ≠ [] := by rintro rfl; simp at hlt
      have hst := gv_take_succ hg hn
      have hmo := fun v' => gv_mono (D := D) (k := k + 1) (s := s) (v := v')
      obtain ⟨q, o, rfl, hq, hl⟩ := hh.out.place hne
      obtain ⟨e0, e1⟩ := hl k _ hg
      clear hl hg hn
      generalize D[k] = p at *
      obtain ⟨s', v'⟩ := p
      dsimp only at e0 e1 hst
      by_cases hs : s' = s
      · subst hs
        have hr : gv D s' = some v' := hmo v' (by rw [hst]; simp)
        have hrh := hide hr
        clear hst hmo hr
        go_wp2
        go_ret2
        exact ⟨by rw [hrh.out]; rfl, rfl⟩
      · have hb : (s' == s) = false := by simp [hs]
        rw [if_neg hs] at hst
        have hsh := hide hst
        clear hst hmo
        go_wp2
        go_round
        case rel => exact ⟨k + 1, by go_num, by omega, hsh.out, by first | rfl | trivial⟩
        case measure => simp [intOf]; omega
    · rw [List.take_of_length_le (by omega)] at hn
      have hnh := hide hn
      clear hn
      go_wp2
      go_ret2
      exact ⟨by rw [hnh.out]; rfl, rfl⟩
theorem ins_none {c : Cl} : ∀ {L : List Cl}, (∀ p ∈ L, ¬ c.1 < p.1) → ins c L = L ++ [c]
  | [], _ => rfl
  | y :: r, h => by
    simp only [ins, h y (by simp), if_false, List.cons_append]
    rw [ins_none (fun p hp => h p (by simp [hp]))]
theorem ins_hit {c y : Cl} : ∀ {L : List Cl}, (∀ p ∈ L, ¬ c.1 < p.1) → c.1 < y.1 → ins c (L ++ [y]) = L ++ [c] ++ [y]
  | [], _, hy => by simp [ins, hy]
  | x :: r, h, hy => by
    simp only [ins, List.cons_append, h x (by simp), if_false]
    rw [ins_hit (fun p hp => h p (by simp [hp])) hy]
theorem ins_done {c y : Cl} : ∀ {L : List Cl}, (∃ p ∈ L, c.1 < p.1) → ins c (L ++ [y]) = ins c L ++ [y]
  | [], h => by simp at h
  | x :: r, h => by
    by_cases hx : c.1 < x.1
    · simp [ins, hx]
    · simp only [ins, List.cons_append, hx, if_false]
      rw [ins_done]
      obtain ⟨p, hp, hc⟩ := h
      rcases List.mem_cons.1 hp with rfl | hp
      · exact absurd hc hx
      · exact ⟨p, hp, hc⟩
theorem OwnC.grow {B : Nat} {w w' : World} {v : Value} {l : List Cl} (h : OwnC B w v l) (hb : Below w.heap.size w w') : OwnC B w' v l :=
  h.bel hb (Nat.le_refl _)
/-- A row of two cells. -/
def At2 (w : World) (g : Nat) (c : Cl) : Prop := w.cell? ⟨g, 0, none⟩ = some (.int .i64 c.1) ∧ w.cell? ⟨g, 1, none⟩ = some (.string c.2)
theorem At2.new (w : World) (c : Cl) (T : TypeId) : At2 (w.alloc (.cells #[.int .i64 c.1, .string c.2] T)) w.heap.size c := by
  refine ⟨?_, ?_⟩
  all_goals go_simp
theorem At2.on {w w' : World} {g : Nat} {c : Cl} (h : At2 w g c) {B : Nat} (hb : Below B w w') (hg : g < B) : At2 w' g c :=
  ⟨(hb.cell (p := ⟨g, 0, none⟩) hg).trans h.1, (hb.cell (p := ⟨g, 1, none⟩) hg).trans h.2⟩
set_option maxRecDepth 100000 in
set_option maxHeartbeats 1000000 in
theorem refput_any (D : List Cl) (a : Option Addr) (cp : Nat) (c : Cl) (w : World) (h : SlC w (.slice a D.length cp) D a cp) (hl : D.length ≤ 1024) :
    Calls Try.prog 64 #[.slice a D.length cp, .agg #[.int .i64 c.1, .string c.2]] w fun e w' => ∃ v, e = .returned v ∧ OwnC w.heap.size w' v (ins c D) ∧ Below w.heap.size w w' := by
  have hmx := h.max
  have hcap := h.cap
  unfold maxLen at hmx
  obtain ⟨s, v⟩ := c
  dsimp only
  obtain ⟨w1, hw1⟩ : ∃ w1, w.alloc (.cells #[.int .i64 s, .string v] 148) = w1 := ⟨_, rfl⟩
  have bw : Below w.heap.size w w1 := by rw [← hw1]; exact (Below.refl _ w).alloc (Nat.le_refl _) _
  have s1 : w1.heap.size = w.heap.size + 1 := by rw [← hw1]; simp
  have C1 : At2 w1 w.heap.size (s, v) := by rw [← hw1]; exact At2.new w (s, v) _
  have hh := hide (h.later bw)
  have hCh := hide C1
  have hs1 := hide s1
  clear h C1 s1
  go_enter Try.func64, Try.ntmps64
  go_wp2
  clear hw1
  go_loopw [7, 6, 5] (fun i d u wr => ∃ (k : Nat) (dn : Bool), i = .int .i64 (k : Int) ∧ d = .bool dn ∧ k ≤ D.length ∧ (dn = false → ∀ p ∈ D.take k, ¬ s < p.1) ∧ (dn = true → ∃ p ∈ D.take k, s < p.1) ∧ OwnC w1.heap.size wr u (if dn then ins (s, v) (D.take k) else D.take k) ∧ Below w1.heap.size w1 wr) (fun i _ _ _ => D.length - (intOf i).toNat)
  case atStart => exact ⟨0, false, rfl, rfl, Nat.zero_le _, by simp, by simp, OwnC.nil _ _, Below.refl _ _⟩
  case round =>
    obtain ⟨k, dn, rfl, rfl, hk, hf, ht, ho, hb⟩ := hrel
    have hsz := hb.size
    obtain ⟨e3, e4⟩ := hCh.out.on hb (by have := hs1.out; omega)
    dsimp only at e3 e4
    have hfh := hide hf
    have hth := hide ht
    clear hf ht
    by_cases hlt : k < D.length
    · have hg : D[k]? = some D[k] := List.getElem?_eq_getElem hlt
      have hne : D ≠ [] := by rintro rfl; simp at hlt
      have htk : D.take (k + 1) = D.take k ++ [D[k]] := by rw [List.take_add_one, hg]; rfl
      obtain ⟨q, o, rfl, hq, hl⟩ := (hh.out.later hb).place hne
      obtain ⟨e0, e1⟩ := hl k _ hg
      have hlt' : (D.take k).length ≤ 1024 := by simp; omega
      clear hl hg
      generalize D[k] = p at *
      obtain ⟨s', v'⟩ := p
      dsimp only at e0 e1
      have htkh := hide htk
      generalize hDk : D.take k = Dk at *
      clear htk hDk
      cases dn with
      | true =>
        simp only [if_true] at ho
        have hex := hth.out rfl
        have hli : (ins (s, v) Dk).length ≤ 1025 := by rw [len_ins]; omega
        have hdd := hide (ins_done (c := (s, v)) (y := (s', v')) hex)
        have hxx := hide hex
        generalize hI : ins (s, v) Dk = I at *
        clear hex
        go_wp2
        go_quiet (fail)
        have bq := belN hb nq
        have oq := ho.grow (belN (Below.refl _ wr) nq)
        have szq : (wr.drewN nq).heap.size = wr.heap.size := rfl
        go_wp2_with (at_builtin; go_must (refine app_cell _ rfl (.tmp 30) (.tmp 35) rfl w1.heap.size I _ rfl ⟨wr.heap.size, 0, none⟩ rfl s' v' (At2.new (wr.drewN nq) (s', v') _).1 (At2.new (wr.drewN nq) (s', v') _).2 (oq.alloc _) (by simp; omega) (by omega) ?y1))
        case y1 =>
          intro u3 w3 o3 hn3 hg3
          have b3 := (bq.alloc bq.size (.cells #[.int .i64 s', .string v'] 148)).grown hg3 (by have := bq.size; simp at this ⊢; omega) (fun k hk => (World.ownsRow.lt (oq.alloc (.cells #[.int .i64 s', .string v'] 148)) k hk).1)
          have bh3 := hide b3
          clear hg3 b3
          go_wp2
          go_round
          case rel => exact ⟨k + 1, true, by go_num, rfl, by omega, by simp, fun _ => by rw [htkh.out]; obtain ⟨p, hp, hc⟩ := hxx.out; exact ⟨p, by simp [hp], hc⟩, by rw [htkh.out]; simp only [if_true]; rw [hdd.out]; exact o3, bh3.out⟩
          case measure => simp [intOf]; omega
      | false =>
        simp only [Bool.false_eq_true, if_false] at ho
        have hno := hfh.out rfl
        by_cases hc : s < s'
        · have hhit := hide (ins_hit (c := (s, v)) (y := (s', v')) hno hc)
          have htt : decide (s < s') = true := by simp [hc]
          go_wp2
          go_quiet (fail)
          have bq := belN hb nq
          have oq := ho.grow (belN (Below.refl _ wr) nq)
          go_wp2_with (at_builtin; go_must (refine app_cell _ rfl (.tmp 26) (.tmp 28) rfl w1.heap.size Dk _ rfl ⟨wr.heap.size, 0, none⟩ rfl s v (At2.new (wr.drewN nq) (s, v) _).1 (At2.new (wr.drewN nq) (s, v) _).2 (oq.alloc _) (by simp; omega) (by omega) ?y2))
          case y2 =>
            intro u3 w3 o3 hn3 hg3
            have b3 := (bq.alloc bq.size (.cells #[.int .i64 s, .string v] 148)).grown hg3 (by have := bq.size; simp at this ⊢; omega) (fun k hk => (World.ownsRow.lt (oq.alloc (.cells #[.int .i64 s, .string v] 148)) k hk).1)
            have hl3 : (Dk ++ [(s, v)]).length ≤ 1025 := by simp; omega
            have hqq : q < w1.heap.size := by
              obtain ⟨q', o', e', hq', _⟩ := hh.out.place hne
              cases e'
              exact hq'
            have f0 := (b3.cell (p := ⟨q, o + k * 2, none⟩) hqq).trans ((hb.cell (p := ⟨q, o + k * 2, none⟩) hqq).symm.trans e0)
            have f1 := (b3.cell (p := ⟨q, o + k * 2 + 1, none⟩) hqq).trans ((hb.cell (p := ⟨q, o + k * 2 + 1, none⟩) hqq).symm.trans e1)
            clear hg3
            generalize hDc : Dk ++ [(s, v)] = Dc at *
            go_wp2_with (at_builtin; go_must (refine app_cell _ rfl (.tmp 30) (.tmp 35) rfl w1.heap.size Dc _ rfl ⟨w3.heap.size, 0, none⟩ rfl s' v' (At2.new w3 (s', v') _).1 (At2.new w3 (s', v') _).2 (o3.alloc _) (by have := b3.size; simp at this ⊢; omega) (by omega) ?y3))
            case y3 =>
              intro u4 w4 o4 hn4 hg4
              have b4 := (b3.alloc b3.size (.cells #[.int .i64 s', .string v'] 148)).grown hg4 (by have := b3.size; simp at this ⊢; omega) (fun k hk => (World.ownsRow.lt (o3.alloc (.cells #[.int .i64 s', .string v'] 148)) k hk).1)
              have bh4 := hide b4
              clear hg4 b4
              go_wp2
              go_round
              case rel => exact ⟨k + 1, true, by go_num, rfl, by omega, by simp, fun _ => by rw [htkh.out]; exact ⟨(s', v'), by simp, hc⟩, by rw [htkh.out]; simp only [if_true]; rw [hhit.out]; exact o4, bh4.out⟩
              case measure => simp [intOf]; omega
        · have htt : decide (s < s') = false := by simp; omega
          go_wp2
          go_quiet (fail)
          have bq := belN hb nq
          have oq := ho.grow (belN (Below.refl _ wr) nq)
          go_wp2_with (at_builtin; go_must (refine app_cell _ rfl (.tmp 30) (.tmp 35) rfl w1.heap.size Dk _ rfl ⟨wr.heap.size, 0, none⟩ rfl s' v' (At2.new (wr.drewN nq) (s', v') _).1 (At2.new (wr.drewN nq) (s', v') _).2 (oq.alloc _) (by simp; omega) (by omega) ?y4))
          case y4 =>
            intro u3 w3 o3 hn3 hg3
            have b3 := (bq.alloc bq.size (.cells #[.int .i64 s', .string v'] 148)).grown hg3 (by have := bq.size; simp at this ⊢; omega) (fun k hk => (World.ownsRow.lt (oq.alloc (.cells #[.int .i64 s', .string v'] 148)) k hk).1)
            have bh3 := hide b3
            clear hg3 b3
            go_wp2
            go_round
            case rel => exact ⟨k + 1, false, by go_num, rfl, by omega, fun _ => by rw [htkh.out]; intro p hp; rcases List.mem_append.1 hp with hp | hp; (have := hno p hp; omega); (simp at hp; subst hp; dsimp only; omega), by simp, by rw [htkh.out]; simp only [Bool.false_eq_true, if_false]; exact o3, bh3.out⟩
            case measure => simp [intOf]; omega
    · obtain rfl : k = D.length := by omega
      rw [List.take_of_length_le (Nat.le_refl _)] at ho hfh hth
      have hs1' := hs1.out
      cases dn with
      | true =>
        simp only [if_true] at ho
        go_wp2
        go_ret
        exact ⟨_, rfl, ho.low (by omega), bw.trans (hb.mono (by omega))⟩
      | false =>
        simp only [Bool.false_eq_true, if_false] at ho
        have hin := hide (ins_none (c := (s, v)) (hfh.out rfl))
        have hh1 := hide hs1'
        clear hs1'
        go_wp2_with (at_builtin; go_must (refine app_cell _ rfl (.tmp 39) (.tmp 41) rfl w1.heap.size D _ rfl ⟨wr.heap.size, 0, none⟩ rfl s v (At2.new wr (s, v) _).1 (At2.new wr (s, v) _).2 (ho.alloc _) (by simp; omega) (by omega) ?y5))
        case y5 =>
          intro u3 w3 o3 hn3 hg3
          have b3 := (hb.alloc hb.size (.cells #[.int .i64 s, .string v] 148)).grown hg3 (by have := hb.size; simp at this ⊢; omega) (fun k hk => (World.ownsRow.lt (ho.alloc (.cells #[.int .i64 s, .string v] 148)) k hk).1)
          have bh3 := hide b3
          clear hg3 b3
          go_wp2
          go_ret
          have := hh1.out
          exact ⟨_, rfl, by rw [hin.out]; exact o3.low (by omega), bw.trans (bh3.out.mono (by omega))⟩

end Go.Proofs.Ytjkleldoeojbbaa

namespace Go.Proofs.Ytjkleldoeojbbaa
open Go.RowKit
set_option linter.unusedVariables false

theorem bh_snoc (p : Cl) : ∀ L : List Cl, bh (L ++ [p]) = max (bh L) (p.1 + 1)
  | [] => by simp only [List.nil_append, bh]; omega
  | y :: r => by simp only [List.cons_append, bh, bh_snoc p r]; omega
set_option maxRecDepth 100000 in
set_option maxHeartbeats 2000000 in
theorem refdo_any (D : List Cl) (a : Option Addr) (c : Nat) (k s : Int) (v : ByteArray) (hf : (⟨k, s, v⟩ : Opn).fits) (w : World) (h : SlC w (.slice a D.length c) D a c) (hok : Ok D) :
    Calls Try.prog 33 #[.slice a D.length c, .agg #[.int .i64 k, .int .i64 s, .string v]] w fun e w' => ∃ a' c', e = .returned (.tuple #[.slice a' (dn D k s v).length c', rV (wd D k s v)]) ∧ SlC w' (.slice a' (dn D k s v).length c') (dn D k s v) a' c' ∧ Below w.heap.size w w' ∧ (a' = a ∧ dn D k s v = D ∨ ∀ z, a' = some z → w.heap.size ≤ z.block) := by
  have hmx := h.max
  have hcap := h.cap
  unfold maxLen at hmx
  have hll := hok.len_le
  have hh := hide h
  have hoh := hide hok
  have hb0 : ∀ x, a = some x → D ≠ [] → ¬ x.block = w.heap.size + 1 := fun x hx hne => by
    obtain ⟨q, o, e, hq, _⟩ := h.place hne
    rw [hx] at e
    cases e
    dsimp only
    omega
  have hno := hide hb0
  clear h hok hb0
  have cc := fun W => refcheck k s v hf W
  by_cases hc : ck k s v = 0
  · rw [hc] at cc
    have cg := fun W hW => refget_any D a c s W hW
    obtain ⟨x, tk, hx, htk, hg⟩ : ∃ (x : ByteArray) (tk : Bool), (gv D s).getD ByteArray.empty = x ∧ (gv D s).isSome = tk ∧ gv D s = if tk then some x else none := by
      cases gv D s with
      | none => exact ⟨_, _, rfl, rfl, rfl⟩
      | some y => exact ⟨_, _, rfl, rfl, rfl⟩
    rw [hx, htk] at cg
    have hr : wd D k s v = if k = 1 then (if tk then (2, s, x) else (1, s, v)) else if k = 2 then (if bh D < 1024 then (1, bh D, v) else (3, 0, ByteArray.empty)) else if k = 3 then (if tk then (4, s, x) else (5, s, ByteArray.empty)) else (6, D.length, ByteArray.empty) := by
      unfold wd
      rw [hg]
      cases tk <;> simp [hc]
    have hrd : dn D k s v = if (wd D k s v).1 = 1 then ins (wd D k s v).2 D else D := rfl
    rw [hr] at hrd
    have hwh := hide hr
    have hdh := hide hrd
    have k4 : k = 1 ∨ k = 2 ∨ k = 3 ∨ k = 4 := by
      unfold ck at hc
      by_cases a1 : k = 1 ∨ k = 3
      · omega
      · by_cases a2 : k = 2 ∨ k = 4
        · omega
        · simp [a1, a2] at hc
    clear hr hrd hg hx htk hc
    rcases k4 with rfl | rfl | rfl | rfl
    · cases tk with
      | true =>
        have hwq := hide (show wd D _ s v = (2, s, x) by rw [hwh.out]; simp)
        have hdq := hide (show dn D _ s v = D by rw [hdh.out]; simp)
        go_enter Try.func33, Try.ntmps33
        go_wp2_with (first
          | (go_at_call 31; refine (cc _).mono ?_; rintro e w1 ⟨rfl, hb⟩; obtain ⟨y0, y1, y2, z0, z1, z2, zf0, zf1, zf2⟩ := box_facts hb; have hb5 : Below w.heap.size w w1 := (((Below.refl w.heap.size w).alloc (Nat.le_refl _) _).alloc (by simp) _).trans (hb.mono (by simp; omega)))
          | (go_at_call 63; refine (cg _ (hh.out.later hb5)).mono ?_; rintro e w2 ⟨rfl, h2⟩; subst h2))
        go_region_held3 (fun v' => v'.cell? ⟨w.heap.size, 1, none⟩ = some (.int .i64 s)) (first | go_keep | go_simp) (fail)
        go_wp2
        refine bodyPost_ret (v := .tuple #[.slice a D.length c, rV (2, s, x)]) (by simp [results, Try.results33, go_sem, rV, *] <;> rfl) rfl ⟨a, c, by rw [hdq.out, hwq.out], ?_, ?_, .inl ⟨rfl, hdq.out⟩⟩
        · rw [hdq.out]
          exact (hh.out.later (hb5.drew)).upd (S := fun i => i = w.heap.size + 1) ((((Upd.refl (fun i => i = w.heap.size + 1) _).setCell (p := ⟨w.heap.size + 1, 0, none⟩) (.inl rfl) _).setCell (p := ⟨w.heap.size + 1, 1, none⟩) (.inl rfl) _).setCell (p := ⟨w.heap.size + 1, 2, none⟩) (.inl rfl) _) hno.out
        · exact (((hb5.drew).setCell (p := ⟨w.heap.size + 1, 0, none⟩) (by simp) _).setCell (p := ⟨w.heap.size + 1, 1, none⟩) (by simp) _).setCell (p := ⟨w.heap.size + 1, 2, none⟩) (by simp) _
      | false =>
        have hwq := hide (show wd D _ s v = (1, s, v) by rw [hwh.out]; simp)
        have hdq := hide (show dn D _ s v = ins (s, v) D by rw [hdh.out]; simp)
        go_enter Try.func33, Try.ntmps33
        go_wp2_with (first
          | (go_at_call 31; refine (cc _).mono ?_; rintro e w1 ⟨rfl, hb⟩; obtain ⟨y0, y1, y2, z0, z1, z2, zf0, zf1, zf2⟩ := box_facts hb; have hb5 : Below w.heap.size w w1 := (((Below.refl w.heap.size w).alloc (Nat.le_refl _) _).alloc (by simp) _).trans (hb.mono (by simp; omega)))
          | (go_at_call 63; refine (cg _ (hh.out.later hb5)).mono ?_; rintro e w2 ⟨rfl, h2⟩; subst h2))
        have hsz2 : w.heap.size + 2 ≤ w2.heap.size := by simpa using hb.size
        have KS : ∀ v', Below w2.heap.size w2 v' → (v'.cell? ⟨w.heap.size, 1, none⟩ = some (.int .i64 s) ∧ v'.cell? ⟨w.heap.size, 2, none⟩ = some (.string v)) := fun v' b' => ⟨(b'.cell (p := ⟨w.heap.size, 1, none⟩) (by dsimp only; omega)).trans y1, (b'.cell (p := ⟨w.heap.size, 2, none⟩) (by dsimp only; omega)).trans y2⟩
        have KH := hide KS
        have hsl2 := hide (hh.out.later hb5)
        clear KS
        go_region_held3 (fun v' => v'.cell? ⟨w.heap.size, 1, none⟩ = some (.int .i64 s) ∧ v'.cell? ⟨w.heap.size, 2, none⟩ = some (.string v))
          (first | exact KH.out _ (Below.refl _ _).drew | exact KH.out _ (by assumption) | go_keep | (exact ⟨by go_simp, by go_simp⟩) | go_simp)
          (first | (go_at_call 64; refine (refput_any D a c (s, v) _ (hsl2.out.later (Below.refl _ _).drew) hll).mono ?_; rintro e w3 ⟨v3, rfl, o3, b3⟩; have hb3 : Below w2.heap.size w2 w3 := (Below.refl _ w2).drew.trans b3; obtain ⟨a3, c3, sl3', hz3'⟩ := o3.sl; have hv3 := sl3'.form; subst hv3; have sl3 := hide sl3'; have hz3 := hide hz3'; have zz0 := (hb3.cell (p := ⟨w.heap.size + 1, 0, none⟩) (by dsimp only; omega)).trans z0; have zz1 := (hb3.cell (p := ⟨w.heap.size + 1, 1, none⟩) (by dsimp only; omega)).trans z1; have zz2 := (hb3.cell (p := ⟨w.heap.size + 1, 2, none⟩) (by dsimp only; omega)).trans z2; have zg0 := (hb3.frozen (p := ⟨w.heap.size + 1, 0, none⟩) (by dsimp only; omega)).trans zf0; have zg1 := (hb3.frozen (p := ⟨w.heap.size + 1, 1, none⟩) (by dsimp only; omega)).trans zf1; have zg2 := (hb3.frozen (p := ⟨w.heap.size + 1, 2, none⟩) (by dsimp only; omega)).trans zf2; clear sl3' hz3' o3))
        go_wp2
        refine bodyPost_ret (v := .tuple #[.slice a3 (ins (s, v) D).length c3, rV (1, s, v)]) (by simp [results, Try.results33, go_sem, rV, *] <;> rfl) rfl ⟨a3, c3, by rw [hdq.out, hwq.out], ?_, ?_, .inr (fun z hz => by have := (hz3.out z hz).1; have e : (World.drew w2).heap.size = w2.heap.size := rfl; omega)⟩
        · rw [hdq.out]
          exact (sl3.out.later (belN (Below.refl _ w3) 0)).upd (S := fun i => i = w.heap.size + 1) ((((Upd.refl (fun i => i = w.heap.size + 1) _).setCell (p := ⟨w.heap.size + 1, 0, none⟩) (.inl rfl) _).setCell (p := ⟨w.heap.size + 1, 1, none⟩) (.inl rfl) _).setCell (p := ⟨w.heap.size + 1, 2, none⟩) (.inl rfl) _) (fun x hx _ hq => by have := (hz3.out x hx).1; have e : (World.drew w2).heap.size = w2.heap.size := rfl; omega)
        · exact (((hb5.trans (hb3.mono hb5.size)).setCell (p := ⟨w.heap.size + 1, 0, none⟩) (by simp) _).setCell (p := ⟨w.heap.size + 1, 1, none⟩) (by simp) _).setCell (p := ⟨w.heap.size + 1, 2, none⟩) (by simp) _
    · by_cases hbh : bh D < 1024
      · have hwq := hide (show wd D _ s v = (1, bh D, v) by rw [hwh.out]; simp [hbh])
        have hdq := hide (show dn D _ s v = ins (bh D, v) D by rw [hdh.out]; simp [hbh])
        go_enter Try.func33, Try.ntmps33
        go_wp2_with (first
          | (go_at_call 31; refine (cc _).mono ?_; rintro e w1 ⟨rfl, hb⟩; obtain ⟨y0, y1, y2, z0, z1, z2, zf0, zf1, zf2⟩ := box_facts hb; have hb5 : Below w.heap.size w w1 := (((Below.refl w.heap.size w).alloc (Nat.le_refl _) _).alloc (by simp) _).trans (hb.mono (by simp; omega)))
          | (go_at_call 63; refine (cg _ (hh.out.later hb5)).mono ?_; rintro e w2 ⟨rfl, h2⟩; subst h2))
        have hDh := hide hoh.out.may
        go_loopw [9, 8] (fun i t wr => ∃ j : Nat, i = .int .i64 (j : Int) ∧ t = .int .i64 (bh (D.take j)) ∧ j ≤ D.length ∧ wr = w2) (fun i _ _ => D.length - (intOf i).toNat)
        case atStart => exact ⟨0, rfl, rfl, Nat.zero_le _, rfl⟩
        case round =>
          obtain ⟨j, rfl, rfl, hj, hwr⟩ := hrel
          have hwr := hwr.symm
          subst hwr
          by_cases hlt : j < D.length
          · have hg : D[j]? = some D[j] := List.getElem?_eq_getElem hlt
            have hne : D ≠ [] := by rintro rfl; simp at hlt
            have htk : bh (D.take (j + 1)) = max (bh (D.take j)) (D[j].1 + 1) := by rw [List.take_add_one, hg]; exact bh_snoc _ _
            have hmj := hDh.out D[j] (List.getElem_mem hlt)
            obtain ⟨q, o, rfl, hq, hl⟩ := (hh.out.later hb5).place hne
            obtain ⟨e0, e1⟩ := hl j _ hg
            have hb1 := bh_le (L := D.take j) (fun p hp => (hDh.out p (List.mem_of_mem_take hp)).2.1)
            have hb2 := bh_nonneg (D.take j)
            clear hl hg
            generalize D[j] = p at *
            obtain ⟨s', v'⟩ := p
            dsimp only at e0 e1 htk hmj
            generalize hbt : bh (D.take j) = t at *
            by_cases hc : t ≤ s'
            · have hT := hide (show bh (D.take (j + 1)) = s' + 1 by rw [htk]; omega)
              clear htk
              have hcc : decide (t ≤ s') = true := by simp [hc]
              go_wp2
              go_round
              case rel => exact ⟨j + 1, by go_num, by rw [hT.out], by omega, by first | rfl | trivial⟩
              case measure => simp [intOf]; omega
            · have hT := hide (show bh (D.take (j + 1)) = t by rw [htk]; omega)
              clear htk
              have hcc : decide (t ≤ s') = false := by simp; omega
              go_wp2
              go_round
              case rel => exact ⟨j + 1, by go_num, by rw [hT.out], by omega, by first | rfl | trivial⟩
              case measure => simp [intOf]; omega
          · obtain rfl : j = D.length := by omega
            rw [List.take_of_length_le (Nat.le_refl _)]
            generalize hbg : bh D = t at *
            have hcc : decide ((1024 : Int) ≤ t) = false := by simp; omega
            go_wp2
            have hsz2 : w.heap.size + 2 ≤ w2.heap.size := by simpa using hb.size
            have KS : ∀ v', Below w2.heap.size w2 v' → (v'.cell? ⟨w.heap.size, 2, none⟩ = some (.string v)) := fun v' b' => (b'.cell (p := ⟨w.heap.size, 2, none⟩) (by dsimp only; omega)).trans y2
            have KH := hide KS
            have hsl2 := hide (hh.out.later hb5)
            clear KS
            go_region_held3 (fun v' => v'.cell? ⟨w.heap.size, 2, none⟩ = some (.string v))
              (first | exact KH.out _ (Below.refl _ _).drew | exact KH.out _ (by assumption) | go_keep | (exact ⟨by go_simp, by go_simp⟩) | go_simp)
              (first | (go_at_call 64; refine (refput_any D a c (t, v) _ (hsl2.out.later (Below.refl _ _).drew) hll).mono ?_; rintro e w3 ⟨v3, rfl, o3, b3⟩; have hb3 : Below w2.heap.size w2 w3 := (Below.refl _ w2).drew.trans b3; obtain ⟨a3, c3, sl3', hz3'⟩ := o3.sl; have hv3 := sl3'.form; subst hv3; have sl3 := hide sl3'; have hz3 := hide hz3'; have zz0 := (hb3.cell (p := ⟨w.heap.size + 1, 0, none⟩) (by dsimp only; omega)).trans z0; have zz1 := (hb3.cell (p := ⟨w.heap.size + 1, 1, none⟩) (by dsimp only; omega)).trans z1; have zz2 := (hb3.cell (p := ⟨w.heap.size + 1, 2, none⟩) (by dsimp only; omega)).trans z2; have zg0 := (hb3.frozen (p := ⟨w.heap.size + 1, 0, none⟩) (by dsimp only; omega)).trans zf0; have zg1 := (hb3.frozen (p := ⟨w.heap.size + 1, 1, none⟩) (by dsimp only; omega)).trans zf1; have zg2 := (hb3.frozen (p := ⟨w.heap.size + 1, 2, none⟩) (by dsimp only; omega)).trans zf2; clear sl3' hz3' o3))
            go_wp2
            refine bodyPost_ret (v := .tuple #[.slice a3 (ins (t, v) D).length c3, rV (1, t, v)]) (by simp [results, Try.results33, go_sem, rV, *] <;> rfl) rfl ⟨a3, c3, by rw [hdq.out, hwq.out], ?_, ?_, .inr (fun z hz => by have := (hz3.out z hz).1; have e : (World.drew w2).heap.size = w2.heap.size := rfl; omega)⟩
            · rw [hdq.out]
              exact (sl3.out.later (belN (Below.refl _ w3) 0)).upd (S := fun i => i = w.heap.size + 1) ((((Upd.refl (fun i => i = w.heap.size + 1) _).setCell (p := ⟨w.heap.size + 1, 0, none⟩) (.inl rfl) _).setCell (p := ⟨w.heap.size + 1, 1, none⟩) (.inl rfl) _).setCell (p := ⟨w.heap.size + 1, 2, none⟩) (.inl rfl) _) (fun x hx _ hq => by have := (hz3.out x hx).1; have e : (World.drew w2).heap.size = w2.heap.size := rfl; omega)
            · exact (((hb5.trans (hb3.mono hb5.size)).setCell (p := ⟨w.heap.size + 1, 0, none⟩) (by simp) _).setCell (p := ⟨w.heap.size + 1, 1, none⟩) (by simp) _).setCell (p := ⟨w.heap.size + 1, 2, none⟩) (by simp) _
      · have hwq := hide (show wd D _ s v = (3, 0, ByteArray.empty) by rw [hwh.out]; simp [hbh])
        have hdq := hide (show dn D _ s v = D by rw [hdh.out]; simp [hbh])
        go_enter Try.func33, Try.ntmps33
        go_wp2_with (first
          | (go_at_call 31; refine (cc _).mono ?_; rintro e w1 ⟨rfl, hb⟩; obtain ⟨y0, y1, y2, z0, z1, z2, zf0, zf1, zf2⟩ := box_facts hb; have hb5 : Below w.heap.size w w1 := (((Below.refl w.heap.size w).alloc (Nat.le_refl _) _).alloc (by simp) _).trans (hb.mono (by simp; omega)))
          | (go_at_call 63; refine (cg _ (hh.out.later hb5)).mono ?_; rintro e w2 ⟨rfl, h2⟩; subst h2))
        have hDh := hide hoh.out.may
        go_loopw [9, 8] (fun i t wr => ∃ j : Nat, i = .int .i64 (j : Int) ∧ t = .int .i64 (bh (D.take j)) ∧ j ≤ D.length ∧ wr = w2) (fun i _ _ => D.length - (intOf i).toNat)
        case atStart => exact ⟨0, rfl, rfl, Nat.zero_le _, rfl⟩
        case round =>
          obtain ⟨j, rfl, rfl, hj, hwr⟩ := hrel
          have hwr := hwr.symm
          subst hwr
          by_cases hlt : j < D.length
          · have hg : D[j]? = some D[j] := List.getElem?_eq_getElem hlt
            have hne : D ≠ [] := by rintro rfl; simp at hlt
            have htk : bh (D.take (j + 1)) = max (bh (D.take j)) (D[j].1 + 1) := by rw [List.take_add_one, hg]; exact bh_snoc _ _
            have hmj := hDh.out D[j] (List.getElem_mem hlt)
            obtain ⟨q, o, rfl, hq, hl⟩ := (hh.out.later hb5).place hne
            obtain ⟨e0, e1⟩ := hl j _ hg
            have hb1 := bh_le (L := D.take j) (fun p hp => (hDh.out p (List.mem_of_mem_take hp)).2.1)
            have hb2 := bh_nonneg (D.take j)
            clear hl hg
            generalize D[j] = p at *
            obtain ⟨s', v'⟩ := p
            dsimp only at e0 e1 htk hmj
            generalize hbt : bh (D.take j) = t at *
            by_cases hc : t ≤ s'
            · have hT := hide (show bh (D.take (j + 1)) = s' + 1 by rw [htk]; omega)
              clear htk
              have hcc : decide (t ≤ s') = true := by simp [hc]
              go_wp2
              go_round
              case rel => exact ⟨j + 1, by go_num, by rw [hT.out], by omega, by first | rfl | trivial⟩
              case measure => simp [intOf]; omega
            · have hT := hide (show bh (D.take (j + 1)) = t by rw [htk]; omega)
              clear htk
              have hcc : decide (t ≤ s') = false := by simp; omega
              go_wp2
              go_round
              case rel => exact ⟨j + 1, by go_num, by rw [hT.out], by omega, by first | rfl | trivial⟩
              case measure => simp [intOf]; omega
          · obtain rfl : j = D.length := by omega
            rw [List.take_of_length_le (Nat.le_refl _)]
            generalize hbg : bh D = t at *
            have hcc : decide ((1024 : Int) ≤ t) = true := by simp; omega
            go_wp2
            refine bodyPost_ret (v := .tuple #[.slice a D.length c, rV (3, 0, ByteArray.empty)]) (by simp [results, Try.results33, go_sem, rV, *] <;> rfl) rfl ⟨a, c, by rw [hdq.out, hwq.out], ?_, ?_, .inl ⟨rfl, hdq.out⟩⟩
            · rw [hdq.out]
              exact (hh.out.later (hb5)).upd (S := fun i => i = w.heap.size + 1) ((((Upd.refl (fun i => i = w.heap.size + 1) _).setCell (p := ⟨w.heap.size + 1, 0, none⟩) (.inl rfl) _).setCell (p := ⟨w.heap.size + 1, 1, none⟩) (.inl rfl) _).setCell (p := ⟨w.heap.size + 1, 2, none⟩) (.inl rfl) _) hno.out
            · exact (((hb5).setCell (p := ⟨w.heap.size + 1, 0, none⟩) (by simp) _).setCell (p := ⟨w.heap.size + 1, 1, none⟩) (by simp) _).setCell (p := ⟨w.heap.size + 1, 2, none⟩) (by simp) _
    · cases tk with
      | true =>
        have hwq := hide (show wd D _ s v = (4, s, x) by rw [hwh.out]; simp)
        have hdq := hide (show dn D _ s v = D by rw [hdh.out]; simp)
        go_enter Try.func33, Try.ntmps33
        go_wp2_with (first
          | (go_at_call 31; refine (cc _).mono ?_; rintro e w1 ⟨rfl, hb⟩; obtain ⟨y0, y1, y2, z0, z1, z2, zf0, zf1, zf2⟩ := box_facts hb; have hb5 : Below w.heap.size w w1 := (((Below.refl w.heap.size w).alloc (Nat.le_refl _) _).alloc (by simp) _).trans (hb.mono (by simp; omega)))
          | (go_at_call 63; refine (cg _ (hh.out.later hb5)).mono ?_; rintro e w2 ⟨rfl, h2⟩; subst h2))
        go_region_held3 (fun v' => v'.cell? ⟨w.heap.size, 1, none⟩ = some (.int .i64 s)) (first | go_keep | go_simp) (fail)
        go_wp2
        refine bodyPost_ret (v := .tuple #[.slice a D.length c, rV (4, s, x)]) (by simp [results, Try.results33, go_sem, rV, *] <;> rfl) rfl ⟨a, c, by rw [hdq.out, hwq.out], ?_, ?_, .inl ⟨rfl, hdq.out⟩⟩
        · rw [hdq.out]
          exact (hh.out.later (hb5.drew)).upd (S := fun i => i = w.heap.size + 1) ((((Upd.refl (fun i => i = w.heap.size + 1) _).setCell (p := ⟨w.heap.size + 1, 0, none⟩) (.inl rfl) _).setCell (p := ⟨w.heap.size + 1, 1, none⟩) (.inl rfl) _).setCell (p := ⟨w.heap.size + 1, 2, none⟩) (.inl rfl) _) hno.out
        · exact (((hb5.drew).setCell (p := ⟨w.heap.size + 1, 0, none⟩) (by simp) _).setCell (p := ⟨w.heap.size + 1, 1, none⟩) (by simp) _).setCell (p := ⟨w.heap.size + 1, 2, none⟩) (by simp) _
      | false =>
        have hwq := hide (show wd D _ s v = (5, s, ByteArray.empty) by rw [hwh.out]; simp)
        have hdq := hide (show dn D _ s v = D by rw [hdh.out]; simp)
        go_enter Try.func33, Try.ntmps33
        go_wp2_with (first
          | (go_at_call 31; refine (cc _).mono ?_; rintro e w1 ⟨rfl, hb⟩; obtain ⟨y0, y1, y2, z0, z1, z2, zf0, zf1, zf2⟩ := box_facts hb; have hb5 : Below w.heap.size w w1 := (((Below.refl w.heap.size w).alloc (Nat.le_refl _) _).alloc (by simp) _).trans (hb.mono (by simp; omega)))
          | (go_at_call 63; refine (cg _ (hh.out.later hb5)).mono ?_; rintro e w2 ⟨rfl, h2⟩; subst h2))
        go_region_held3 (fun v' => v'.cell? ⟨w.heap.size, 1, none⟩ = some (.int .i64 s)) (first | go_keep | go_simp) (fail)
        go_wp2
        refine bodyPost_ret (v := .tuple #[.slice a D.length c, rV (5, s, ByteArray.empty)]) (by simp [results, Try.results33, go_sem, rV, *] <;> rfl) rfl ⟨a, c, by rw [hdq.out, hwq.out], ?_, ?_, .inl ⟨rfl, hdq.out⟩⟩
        · rw [hdq.out]
          exact (hh.out.later (hb5.drew)).upd (S := fun i => i = w.heap.size + 1) ((((Upd.refl (fun i => i = w.heap.size + 1) _).setCell (p := ⟨w.heap.size + 1, 0, none⟩) (.inl rfl) _).setCell (p := ⟨w.heap.size + 1, 1, none⟩) (.inl rfl) _).setCell (p := ⟨w.heap.size + 1, 2, none⟩) (.inl rfl) _) hno.out
        · exact (((hb5.drew).setCell (p := ⟨w.heap.size + 1, 0, none⟩) (by simp) _).setCell (p := ⟨w.heap.size + 1, 1, none⟩) (by simp) _).setCell (p := ⟨w.heap.size + 1, 2, none⟩) (by simp) _
    · have hwq := hide (show wd D _ s v = (6, (D.length : Int), ByteArray.empty) by rw [hwh.out]; simp)
      have hdq := hide (show dn D _ s v = D by rw [hdh.out]; simp)
      go_enter Try.func33, Try.ntmps33
      go_wp2_with (first
        | (go_at_call 31; refine (cc _).mono ?_; rintro e w1 ⟨rfl, hb⟩; obtain ⟨y0, y1, y2, z0, z1, z2, zf0, zf1, zf2⟩ := box_facts hb; have hb5 : Below w.heap.size w w1 := (((Below.refl w.heap.size w).alloc (Nat.le_refl _) _).alloc (by simp) _).trans (hb.mono (by simp; omega)))
        | (go_at_call 63; refine (cg _ (hh.out.later hb5)).mono ?_; rintro e w2 ⟨rfl, h2⟩; subst h2))
      refine bodyPost_ret (v := .tuple #[.slice a D.length c, rV (6, (D.length : Int), ByteArray.empty)]) (by simp [results, Try.results33, go_sem, rV, *] <;> rfl) rfl ⟨a, c, by rw [hdq.out, hwq.out], ?_, ?_, .inl ⟨rfl, hdq.out⟩⟩
      · rw [hdq.out]
        exact (hh.out.later (hb5)).upd (S := fun i => i = w.heap.size + 1) ((((Upd.refl (fun i => i = w.heap.size + 1) _).setCell (p := ⟨w.heap.size + 1, 0, none⟩) (.inl rfl) _).setCell (p := ⟨w.heap.size + 1, 1, none⟩) (.inl rfl) _).setCell (p := ⟨w.heap.size + 1, 2, none⟩) (.inl rfl) _) hno.out
      · exact (((hb5).setCell (p := ⟨w.heap.size + 1, 0, none⟩) (by simp) _).setCell (p := ⟨w.heap.size + 1, 1, none⟩) (by simp) _).setCell (p := ⟨w.heap.size + 1, 2, none⟩) (by simp) _
  · have hr : wd D k s v = (0, 0, ByteArray.empty) := by simp [wd, hc]
    have hd : dn D k s v = D := by simp [dn, hr]
    have hwq := hide hr
    have hdq := hide hd
    have hne : (ck k s v != 0) = true := by simp [hc]
    clear hr hd
    go_enter Try.func33, Try.ntmps33
    go_wp2_with (go_at_call 31; refine (cc _).mono ?_; rintro e w1 ⟨rfl, hb⟩; obtain ⟨y0, y1, y2, z0, z1, z2, zf0, zf1, zf2⟩ := box_facts hb)
    have hb5 : Below w.heap.size w w1 := (((Below.refl w.heap.size w).alloc (Nat.le_refl _) _).alloc (by simp) _).trans (hb.mono (by simp; omega))
    refine bodyPost_ret (v := .tuple #[.slice a D.length c, rV (0, 0, ByteArray.empty)]) (by simp [results, Try.results33, go_sem, rV, *] <;> rfl) rfl ⟨a, c, by rw [hdq.out, hwq.out], ?_, ?_, .inl ⟨rfl, hdq.out⟩⟩
    · rw [hdq.out]
      exact (hh.out.later (hb5)).upd (S := fun i => i = w.heap.size + 1) ((((Upd.refl (fun i => i = w.heap.size + 1) _).setCell (p := ⟨w.heap.size + 1, 0, none⟩) (.inl rfl) _).setCell (p := ⟨w.heap.size + 1, 1, none⟩) (.inl rfl) _).setCell (p := ⟨w.heap.size + 1, 2, none⟩) (.inl rfl) _) hno.out
    · exact (((hb5).setCell (p := ⟨w.heap.size + 1, 0, none⟩) (by simp) _).setCell (p := ⟨w.heap.size + 1, 1, none⟩) (by simp) _).setCell (p := ⟨w.heap.size + 1, 2, none⟩) (by simp) _

end Go.Proofs.Ytjkleldoeojbbaa

namespace Go.Proofs.Ytjkleldoeojbbaa
open Go.RowKit
set_option linter.unusedVariables false

set_option maxRecDepth 100000 in
set_option maxHeartbeats 2000000 in
theorem refdo_own (D : List Cl) (a : Option Addr) (c : Nat) (k s : Int) (v : ByteArray) (hf : (⟨k, s, v⟩ : Opn).fits) (w : World) (h : SlC w (.slice a D.length c) D a c) (hok : Ok D) :
    Calls Try.prog 33 #[.slice a D.length c, .agg #[.int .i64 k, .int .i64 s, .string v]] w fun e w' => ∃ a' c', e = .returned (.tuple #[.slice a' (dn D k s v).length c', rV (wd D k s v)]) ∧ SlC w' (.slice a' (dn D k s v).length c') (dn D k s v) a' c' ∧ Below w.heap.size w w' ∧ (a' = a ∧ c' = c ∧ dn D k s v = D ∨ OwnC w.heap.size w' (.slice a' (dn D k s v).length c') (dn D k s v)) := by
  have hmx := h.max
  have hcap := h.cap
  unfold maxLen at hmx
  have hll := hok.len_le
  have hh := hide h
  have hoh := hide hok
  have hb0 : ∀ x, a = some x → D ≠ [] → ¬ x.block = w.heap.size + 1 := fun x hx hne => by
    obtain ⟨q, o, e, hq, _⟩ := h.place hne
    rw [hx] at e
    cases e
    dsimp only
    omega
  have hno := hide hb0
  clear h hok hb0
  have cc := fun W => refcheck k s v hf W
  by_cases hc : ck k s v = 0
  · rw [hc] at cc
    have cg := fun W hW => refget_any D a c s W hW
    obtain ⟨x, tk, hx, htk, hg⟩ : ∃ (x : ByteArray) (tk : Bool), (gv D s).getD ByteArray.empty = x ∧ (gv D s).isSome = tk ∧ gv D s = if tk then some x else none := by
      cases gv D s with
      | none => exact ⟨_, _, rfl, rfl, rfl⟩
      | some y => exact ⟨_, _, rfl, rfl, rfl⟩
    rw [hx, htk] at cg
    have hr : wd D k s v = if k = 1 then (if tk then (2, s, x) else (1, s, v)) else if k = 2 then (if bh D < 1024 then (1, bh D, v) else (3, 0, ByteArray.empty)) else if k = 3 then (if tk then (4, s, x) else (5, s, ByteArray.empty)) else (6, D.length, ByteArray.empty) := by
      unfold wd
      rw [hg]
      cases tk <;> simp [hc]
    have hrd : dn D k s v = if (wd D k s v).1 = 1 then ins (wd D k s v).2 D else D := rfl
    rw [hr] at hrd
    have hwh := hide hr
    have hdh := hide hrd
    have k4 : k = 1 ∨ k = 2 ∨ k = 3 ∨ k = 4 := by
      unfold ck at hc
      by_cases a1 : k = 1 ∨ k = 3
      · omega
      · by_cases a2 : k = 2 ∨ k = 4
        · omega
        · simp [a1, a2] at hc
    clear hr hrd hg hx htk hc
    rcases k4 with rfl | rfl | rfl | rfl
    · cases tk with
      | true =>
        have hwq := hide (show wd D _ s v = (2, s, x) by rw [hwh.out]; simp)
        have hdq := hide (show dn D _ s v = D by rw [hdh.out]; simp)
        go_enter Try.func33, Try.ntmps33
        go_wp2_with (first
          | (go_at_call 31; refine (cc _).mono ?_; rintro e w1 ⟨rfl, hb⟩; obtain ⟨y0, y1, y2, z0, z1, z2, zf0, zf1, zf2⟩ := box_facts hb; have hb5 : Below w.heap.size w w1 := (((Below.refl w.heap.size w).alloc (Nat.le_refl _) _).alloc (by simp) _).trans (hb.mono (by simp; omega)))
          | (go_at_call 63; refine (cg _ (hh.out.later hb5)).mono ?_; rintro e w2 ⟨rfl, h2⟩; subst h2))
        go_region_held3 (fun v' => v'.cell? ⟨w.heap.size, 1, none⟩ = some (.int .i64 s)) (first | go_keep | go_simp) (fail)
        go_wp2
        refine bodyPost_ret (v := .tuple #[.slice a D.length c, rV (2, s, x)]) (by simp [results, Try.results33, go_sem, rV, *] <;> rfl) rfl ⟨a, c, by rw [hdq.out, hwq.out], ?_, ?_, .inl ⟨rfl, rfl, hdq.out⟩⟩
        · rw [hdq.out]
          exact (hh.out.later (hb5.drew)).upd (S := fun i => i = w.heap.size + 1) ((((Upd.refl (fun i => i = w.heap.size + 1) _).setCell (p := ⟨w.heap.size + 1, 0, none⟩) (.inl rfl) _).setCell (p := ⟨w.heap.size + 1, 1, none⟩) (.inl rfl) _).setCell (p := ⟨w.heap.size + 1, 2, none⟩) (.inl rfl) _) hno.out
        · exact (((hb5.drew).setCell (p := ⟨w.heap.size + 1, 0, none⟩) (by simp) _).setCell (p := ⟨w.heap.size + 1, 1, none⟩) (by simp) _).setCell (p := ⟨w.heap.size + 1, 2, none⟩) (by simp) _
      | false =>
        have hwq := hide (show wd D _ s v = (1, s, v) by rw [hwh.out]; simp)
        have hdq := hide (show dn D _ s v = ins (s, v) D by rw [hdh.out]; simp)
        go_enter Try.func33, Try.ntmps33
        go_wp2_with (first
          | (go_at_call 31; refine (cc _).mono ?_; rintro e w1 ⟨rfl, hb⟩; obtain ⟨y0, y1, y2, z0, z1, z2, zf0, zf1, zf2⟩ := box_facts hb; have hb5 : Below w.heap.size w w1 := (((Below.refl w.heap.size w).alloc (Nat.le_refl _) _).alloc (by simp) _).trans (hb.mono (by simp; omega)))
          | (go_at_call 63; refine (cg _ (hh.out.later hb5)).mono ?_; rintro e w2 ⟨rfl, h2⟩; subst h2))
        have hsz2 : w.heap.size + 2 ≤ w2.heap.size := by simpa using hb.size
        have KS : ∀ v', Below w2.heap.size w2 v' → (v'.cell? ⟨w.heap.size, 1, none⟩ = some (.int .i64 s) ∧ v'.cell? ⟨w.heap.size, 2, none⟩ = some (.string v)) := fun v' b' => ⟨(b'.cell (p := ⟨w.heap.size, 1, none⟩) (by dsimp only; omega)).trans y1, (b'.cell (p := ⟨w.heap.size, 2, none⟩) (by dsimp only; omega)).trans y2⟩
        have KH := hide KS
        have hsl2 := hide (hh.out.later hb5)
        clear KS
        go_region_held3 (fun v' => v'.cell? ⟨w.heap.size, 1, none⟩ = some (.int .i64 s) ∧ v'.cell? ⟨w.heap.size, 2, none⟩ = some (.string v))
          (first | exact KH.out _ (Below.refl _ _).drew | exact KH.out _ (by assumption) | go_keep | (exact ⟨by go_simp, by go_simp⟩) | go_simp)
          (first | (go_at_call 64; refine (refput_any D a c (s, v) _ (hsl2.out.later (Below.refl _ _).drew) hll).mono ?_; rintro e w3 ⟨v3, rfl, o3, b3⟩; have hb3 : Below w2.heap.size w2 w3 := (Below.refl _ w2).drew.trans b3; obtain ⟨a3, c3, sl3', hz3'⟩ := o3.sl; have hv3 := sl3'.form; subst hv3; have o3h := hide o3; have sl3 := hide sl3'; have hz3 := hide hz3'; have zz0 := (hb3.cell (p := ⟨w.heap.size + 1, 0, none⟩) (by dsimp only; omega)).trans z0; have zz1 := (hb3.cell (p := ⟨w.heap.size + 1, 1, none⟩) (by dsimp only; omega)).trans z1; have zz2 := (hb3.cell (p := ⟨w.heap.size + 1, 2, none⟩) (by dsimp only; omega)).trans z2; have zg0 := (hb3.frozen (p := ⟨w.heap.size + 1, 0, none⟩) (by dsimp only; omega)).trans zf0; have zg1 := (hb3.frozen (p := ⟨w.heap.size + 1, 1, none⟩) (by dsimp only; omega)).trans zf1; have zg2 := (hb3.frozen (p := ⟨w.heap.size + 1, 2, none⟩) (by dsimp only; omega)).trans zf2; clear sl3' hz3' o3))
        go_wp2
        refine bodyPost_ret (v := .tuple #[.slice a3 (ins (s, v) D).length c3, rV (1, s, v)]) (by simp [results, Try.results33, go_sem, rV, *] <;> rfl) rfl ⟨a3, c3, by rw [hdq.out, hwq.out], ?_, ?_, .inr ?_⟩
        · rw [hdq.out]
          exact (sl3.out.later (belN (Below.refl _ w3) 0)).upd (S := fun i => i = w.heap.size + 1) ((((Upd.refl (fun i => i = w.heap.size + 1) _).setCell (p := ⟨w.heap.size + 1, 0, none⟩) (.inl rfl) _).setCell (p := ⟨w.heap.size + 1, 1, none⟩) (.inl rfl) _).setCell (p := ⟨w.heap.size + 1, 2, none⟩) (.inl rfl) _) (fun x hx _ hq => by have := (hz3.out x hx).1; have e : (World.drew w2).heap.size = w2.heap.size := rfl; omega)
        · exact (((hb5.trans (hb3.mono hb5.size)).setCell (p := ⟨w.heap.size + 1, 0, none⟩) (by simp) _).setCell (p := ⟨w.heap.size + 1, 1, none⟩) (by simp) _).setCell (p := ⟨w.heap.size + 1, 2, none⟩) (by simp) _
        · rw [hdq.out]
          exact (o3h.out.upd (S := fun i => i = w.heap.size + 1) ((((Upd.refl (fun i => i = w.heap.size + 1) _).setCell (p := ⟨w.heap.size + 1, 0, none⟩) (.inl rfl) _).setCell (p := ⟨w.heap.size + 1, 1, none⟩) (.inl rfl) _).setCell (p := ⟨w.heap.size + 1, 2, none⟩) (.inl rfl) _) (fun k hk hq => by have e : (World.drew w2).heap.size = w2.heap.size := rfl; omega)).low (by have e : (World.drew w2).heap.size = w2.heap.size := rfl; omega)
    · by_cases hbh : bh D < 1024
      · have hwq := hide (show wd D _ s v = (1, bh D, v) by rw [hwh.out]; simp [hbh])
        have hdq := hide (show dn D _ s v = ins (bh D, v) D by rw [hdh.out]; simp [hbh])
        go_enter Try.func33, Try.ntmps33
        go_wp2_with (first
          | (go_at_call 31; refine (cc _).mono ?_; rintro e w1 ⟨rfl, hb⟩; obtain ⟨y0, y1, y2, z0, z1, z2, zf0, zf1, zf2⟩ := box_facts hb; have hb5 : Below w.heap.size w w1 := (((Below.refl w.heap.size w).alloc (Nat.le_refl _) _).alloc (by simp) _).trans (hb.mono (by simp; omega)))
          | (go_at_call 63; refine (cg _ (hh.out.later hb5)).mono ?_; rintro e w2 ⟨rfl, h2⟩; subst h2))
        have hDh := hide hoh.out.may
        go_loopw [9, 8] (fun i t wr => ∃ j : Nat, i = .int .i64 (j : Int) ∧ t = .int .i64 (bh (D.take j)) ∧ j ≤ D.length ∧ wr = w2) (fun i _ _ => D.length - (intOf i).toNat)
        case atStart => exact ⟨0, rfl, rfl, Nat.zero_le _, rfl⟩
        case round =>
          obtain ⟨j, rfl, rfl, hj, hwr⟩ := hrel
          have hwr := hwr.symm
          subst hwr
          by_cases hlt : j < D.length
          · have hg : D[j]? = some D[j] := List.getElem?_eq_getElem hlt
            have hne : D ≠ [] := by rintro rfl; simp at hlt
            have htk : bh (D.take (j + 1)) = max (bh (D.take j)) (D[j].1 + 1) := by rw [List.take_add_one, hg]; exact bh_snoc _ _
            have hmj := hDh.out D[j] (List.getElem_mem hlt)
            obtain ⟨q, o, rfl, hq, hl⟩ := (hh.out.later hb5).place hne
            obtain ⟨e0, e1⟩ := hl j _ hg
            have hb1 := bh_le (L := D.take j) (fun p hp => (hDh.out p (List.mem_of_mem_take hp)).2.1)
            have hb2 := bh_nonneg (D.take j)
            clear hl hg
            generalize D[j] = p at *
            obtain ⟨s', v'⟩ := p
            dsimp only at e0 e1 htk hmj
            generalize hbt : bh (D.take j) = t at *
            by_cases hc : t ≤ s'
            · have hT := hide (show bh (D.take (j + 1)) = s' + 1 by rw [htk]; omega)
              clear htk
              have hcc : decide (t ≤ s') = true := by simp [hc]
              go_wp2
              go_round
              case rel => exact ⟨j + 1, by go_num, by rw [hT.out], by omega, by first | rfl | trivial⟩
              case measure => simp [intOf]; omega
            · have hT := hide (show bh (D.take (j + 1)) = t by rw [htk]; omega)
              clear htk
              have hcc : decide (t ≤ s') = false := by simp; omega
              go_wp2
              go_round
              case rel => exact ⟨j + 1, by go_num, by rw [hT.out], by omega, by first | rfl | trivial⟩
              case measure => simp [intOf]; omega
          · obtain rfl : j = D.length := by omega
            rw [List.take_of_length_le (Nat.le_refl _)]
            generalize hbg : bh D = t at *
            have hcc : decide ((1024 : Int) ≤ t) = false := by simp; omega
            go_wp2
            have hsz2 : w.heap.size + 2 ≤ w2.heap.size := by simpa using hb.size
            have KS : ∀ v', Below w2.heap.size w2 v' → (v'.cell? ⟨w.heap.size, 2, none⟩ = some (.string v)) := fun v' b' => (b'.cell (p := ⟨w.heap.size, 2, none⟩) (by dsimp only; omega)).trans y2
            have KH := hide KS
            have hsl2 := hide (hh.out.later hb5)
            clear KS
            go_region_held3 (fun v' => v'.cell? ⟨w.heap.size, 2, none⟩ = some (.string v))
              (first | exact KH.out _ (Below.refl _ _).drew | exact KH.out _ (by assumption) | go_keep | (exact ⟨by go_simp, by go_simp⟩) | go_simp)
              (first | (go_at_call 64; refine (refput_any D a c (t, v) _ (hsl2.out.later (Below.refl _ _).drew) hll).mono ?_; rintro e w3 ⟨v3, rfl, o3, b3⟩; have hb3 : Below w2.heap.size w2 w3 := (Below.refl _ w2).drew.trans b3; obtain ⟨a3, c3, sl3', hz3'⟩ := o3.sl; have hv3 := sl3'.form; subst hv3; have o3h := hide o3; have sl3 := hide sl3'; have hz3 := hide hz3'; have zz0 := (hb3.cell (p := ⟨w.heap.size + 1, 0, none⟩) (by dsimp only; omega)).trans z0; have zz1 := (hb3.cell (p := ⟨w.heap.size + 1, 1, none⟩) (by dsimp only; omega)).trans z1; have zz2 := (hb3.cell (p := ⟨w.heap.size + 1, 2, none⟩) (by dsimp only; omega)).trans z2; have zg0 := (hb3.frozen (p := ⟨w.heap.size + 1, 0, none⟩) (by dsimp only; omega)).trans zf0; have zg1 := (hb3.frozen (p := ⟨w.heap.size + 1, 1, none⟩) (by dsimp only; omega)).trans zf1; have zg2 := (hb3.frozen (p := ⟨w.heap.size + 1, 2, none⟩) (by dsimp only; omega)).trans zf2; clear sl3' hz3' o3))
            go_wp2
            refine bodyPost_ret (v := .tuple #[.slice a3 (ins (t, v) D).length c3, rV (1, t, v)]) (by simp [results, Try.results33, go_sem, rV, *] <;> rfl) rfl ⟨a3, c3, by rw [hdq.out, hwq.out], ?_, ?_, .inr ?_⟩
            · rw [hdq.out]
              exact (sl3.out.later (belN (Below.refl _ w3) 0)).upd (S := fun i => i = w.heap.size + 1) ((((Upd.refl (fun i => i = w.heap.size + 1) _).setCell (p := ⟨w.heap.size + 1, 0, none⟩) (.inl rfl) _).setCell (p := ⟨w.heap.size + 1, 1, none⟩) (.inl rfl) _).setCell (p := ⟨w.heap.size + 1, 2, none⟩) (.inl rfl) _) (fun x hx _ hq => by have := (hz3.out x hx).1; have e : (World.drew w2).heap.size = w2.heap.size := rfl; omega)
            · exact (((hb5.trans (hb3.mono hb5.size)).setCell (p := ⟨w.heap.size + 1, 0, none⟩) (by simp) _).setCell (p := ⟨w.heap.size + 1, 1, none⟩) (by simp) _).setCell (p := ⟨w.heap.size + 1, 2, none⟩) (by simp) _
            · rw [hdq.out]
              exact (o3h.out.upd (S := fun i => i = w.heap.size + 1) ((((Upd.refl (fun i => i = w.heap.size + 1) _).setCell (p := ⟨w.heap.size + 1, 0, none⟩) (.inl rfl) _).setCell (p := ⟨w.heap.size + 1, 1, none⟩) (.inl rfl) _).setCell (p := ⟨w.heap.size + 1, 2, none⟩) (.inl rfl) _) (fun k hk hq => by have e : (World.drew w2).heap.size = w2.heap.size := rfl; omega)).low (by have e : (World.drew w2).heap.size = w2.heap.size := rfl; omega)
      · have hwq := hide (show wd D _ s v = (3, 0, ByteArray.empty) by rw [hwh.out]; simp [hbh])
        have hdq := hide (show dn D _ s v = D by rw [hdh.out]; simp [hbh])
        go_enter Try.func33, Try.ntmps33
        go_wp2_with (first
          | (go_at_call 31; refine (cc _).mono ?_; rintro e w1 ⟨rfl, hb⟩; obtain ⟨y0, y1, y2, z0, z1, z2, zf0, zf1, zf2⟩ := box_facts hb; have hb5 : Below w.heap.size w w1 := (((Below.refl w.heap.size w).alloc (Nat.le_refl _) _).alloc (by simp) _).trans (hb.mono (by simp; omega)))
          | (go_at_call 63; refine (cg _ (hh.out.later hb5)).mono ?_; rintro e w2 ⟨rfl, h2⟩; subst h2))
        have hDh := hide hoh.out.may
        go_loopw [9, 8] (fun i t wr => ∃ j : Nat, i = .int .i64 (j : Int) ∧ t = .int .i64 (bh (D.take j)) ∧ j ≤ D.length ∧ wr = w2) (fun i _ _ => D.length - (intOf i).toNat)
        case atStart => exact ⟨0, rfl, rfl, Nat.zero_le _, rfl⟩
        case round =>
          obtain ⟨j, rfl, rfl, hj, hwr⟩ := hrel
          have hwr := hwr.symm
          subst hwr
          by_cases hlt : j < D.length
          · have hg : D[j]? = some D[j] := List.getElem?_eq_getElem hlt
            have hne : D ≠ [] := by rintro rfl; simp at hlt
            have htk : bh (D.take (j + 1)) = max (bh (D.take j)) (D[j].1 + 1) := by rw [List.take_add_one, hg]; exact bh_snoc _ _
            have hmj := hDh.out D[j] (List.getElem_mem hlt)
            obtain ⟨q, o, rfl, hq, hl⟩ := (hh.out.later hb5).place hne
            obtain ⟨e0, e1⟩ := hl j _ hg
            have hb1 := bh_le (L := D.take j) (fun p hp => (hDh.out p (List.mem_of_mem_take hp)).2.1)
            have hb2 := bh_nonneg (D.take j)
            clear hl hg
            generalize D[j] = p at *
            obtain ⟨s', v'⟩ := p
            dsimp only at e0 e1 htk hmj
            generalize hbt : bh (D.take j) = t at *
            by_cases hc : t ≤ s'
            · have hT := hide (show bh (D.take (j + 1)) = s' + 1 by rw [htk]; omega)
              clear htk
              have hcc : decide (t ≤ s') = true := by simp [hc]
              go_wp2
              go_round
              case rel => exact ⟨j + 1, by go_num, by rw [hT.out], by omega, by first | rfl | trivial⟩
              case measure => simp [intOf]; omega
            · have hT := hide (show bh (D.take (j + 1)) = t by rw [htk]; omega)
              clear htk
              have hcc : decide (t ≤ s') = false := by simp; omega
              go_wp2
              go_round
              case rel => exact ⟨j + 1, by go_num, by rw [hT.out], by omega, by first | rfl | trivial⟩
              case measure => simp [intOf]; omega
          · obtain rfl : j = D.length := by omega
            rw [List.take_of_length_le (Nat.le_refl _)]
            generalize hbg : bh D = t at *
            have hcc : decide ((1024 : Int) ≤ t) = true := by simp; omega
            go_wp2
            refine bodyPost_ret (v := .tuple #[.slice a D.length c, rV (3, 0, ByteArray.empty)]) (by simp [results, Try.results33, go_sem, rV, *] <;> rfl) rfl ⟨a, c, by rw [hdq.out, hwq.out], ?_, ?_, .inl ⟨rfl, rfl, hdq.out⟩⟩
            · rw [hdq.out]
              exact (hh.out.later (hb5)).upd (S := fun i => i = w.heap.size + 1) ((((Upd.refl (fun i => i = w.heap.size + 1) _).setCell (p := ⟨w.heap.size + 1, 0, none⟩) (.inl rfl) _).setCell (p := ⟨w.heap.size + 1, 1, none⟩) (.inl rfl) _).setCell (p := ⟨w.heap.size + 1, 2, none⟩) (.inl rfl) _) hno.out
            · exact (((hb5).setCell (p := ⟨w.heap.size + 1, 0, none⟩) (by simp) _).setCell (p := ⟨w.heap.size + 1, 1, none⟩) (by simp) _).setCell (p := ⟨w.heap.size + 1, 2, none⟩) (by simp) _
    · cases tk with
      | true =>
        have hwq := hide (show wd D _ s v = (4, s, x) by rw [hwh.out]; simp)
        have hdq := hide (show dn D _ s v = D by rw [hdh.out]; simp)
        go_enter Try.func33, Try.ntmps33
        go_wp2_with (first
          | (go_at_call 31; refine (cc _).mono ?_; rintro e w1 ⟨rfl, hb⟩; obtain ⟨y0, y1, y2, z0, z1, z2, zf0, zf1, zf2⟩ := box_facts hb; have hb5 : Below w.heap.size w w1 := (((Below.refl w.heap.size w).alloc (Nat.le_refl _) _).alloc (by simp) _).trans (hb.mono (by simp; omega)))
          | (go_at_call 63; refine (cg _ (hh.out.later hb5)).mono ?_; rintro e w2 ⟨rfl, h2⟩; subst h2))
        go_region_held3 (fun v' => v'.cell? ⟨w.heap.size, 1, none⟩ = some (.int .i64 s)) (first | go_keep | go_simp) (fail)
        go_wp2
        refine bodyPost_ret (v := .tuple #[.slice a D.length c, rV (4, s, x)]) (by simp [results, Try.results33, go_sem, rV, *] <;> rfl) rfl ⟨a, c, by rw [hdq.out, hwq.out], ?_, ?_, .inl ⟨rfl, rfl, hdq.out⟩⟩
        · rw [hdq.out]
          exact (hh.out.later (hb5.drew)).upd (S := fun i => i = w.heap.size + 1) ((((Upd.refl (fun i => i = w.heap.size + 1) _).setCell (p := ⟨w.heap.size + 1, 0, none⟩) (.inl rfl) _).setCell (p := ⟨w.heap.size + 1, 1, none⟩) (.inl rfl) _).setCell (p := ⟨w.heap.size + 1, 2, none⟩) (.inl rfl) _) hno.out
        · exact (((hb5.drew).setCell (p := ⟨w.heap.size + 1, 0, none⟩) (by simp) _).setCell (p := ⟨w.heap.size + 1, 1, none⟩) (by simp) _).setCell (p := ⟨w.heap.size + 1, 2, none⟩) (by simp) _
      | false =>
        have hwq := hide (show wd D _ s v = (5, s, ByteArray.empty) by rw [hwh.out]; simp)
        have hdq := hide (show dn D _ s v = D by rw [hdh.out]; simp)
        go_enter Try.func33, Try.ntmps33
        go_wp2_with (first
          | (go_at_call 31; refine (cc _).mono ?_; rintro e w1 ⟨rfl, hb⟩; obtain ⟨y0, y1, y2, z0, z1, z2, zf0, zf1, zf2⟩ := box_facts hb; have hb5 : Below w.heap.size w w1 := (((Below.refl w.heap.size w).alloc (Nat.le_refl _) _).alloc (by simp) _).trans (hb.mono (by simp; omega)))
          | (go_at_call 63; refine (cg _ (hh.out.later hb5)).mono ?_; rintro e w2 ⟨rfl, h2⟩; subst h2))
        go_region_held3 (fun v' => v'.cell? ⟨w.heap.size, 1, none⟩ = some (.int .i64 s)) (first | go_keep | go_simp) (fail)
        go_wp2
        refine bodyPost_ret (v := .tuple #[.slice a D.length c, rV (5, s, ByteArray.empty)]) (by simp [results, Try.results33, go_sem, rV, *] <;> rfl) rfl ⟨a, c, by rw [hdq.out, hwq.out], ?_, ?_, .inl ⟨rfl, rfl, hdq.out⟩⟩
        · rw [hdq.out]
          exact (hh.out.later (hb5.drew)).upd (S := fun i => i = w.heap.size + 1) ((((Upd.refl (fun i => i = w.heap.size + 1) _).setCell (p := ⟨w.heap.size + 1, 0, none⟩) (.inl rfl) _).setCell (p := ⟨w.heap.size + 1, 1, none⟩) (.inl rfl) _).setCell (p := ⟨w.heap.size + 1, 2, none⟩) (.inl rfl) _) hno.out
        · exact (((hb5.drew).setCell (p := ⟨w.heap.size + 1, 0, none⟩) (by simp) _).setCell (p := ⟨w.heap.size + 1, 1, none⟩) (by simp) _).setCell (p := ⟨w.heap.size + 1, 2, none⟩) (by simp) _
    · have hwq := hide (show wd D _ s v = (6, (D.length : Int), ByteArray.empty) by rw [hwh.out]; simp)
      have hdq := hide (show dn D _ s v = D by rw [hdh.out]; simp)
      go_enter Try.func33, Try.ntmps33
      go_wp2_with (first
        | (go_at_call 31; refine (cc _).mono ?_; rintro e w1 ⟨rfl, hb⟩; obtain ⟨y0, y1, y2, z0, z1, z2, zf0, zf1, zf2⟩ := box_facts hb; have hb5 : Below w.heap.size w w1 := (((Below.refl w.heap.size w).alloc (Nat.le_refl _) _).alloc (by simp) _).trans (hb.mono (by simp; omega)))
        | (go_at_call 63; refine (cg _ (hh.out.later hb5)).mono ?_; rintro e w2 ⟨rfl, h2⟩; subst h2))
      refine bodyPost_ret (v := .tuple #[.slice a D.length c, rV (6, (D.length : Int), ByteArray.empty)]) (by simp [results, Try.results33, go_sem, rV, *] <;> rfl) rfl ⟨a, c, by rw [hdq.out, hwq.out], ?_, ?_, .inl ⟨rfl, rfl, hdq.out⟩⟩
      · rw [hdq.out]
        exact (hh.out.later (hb5)).upd (S := fun i => i = w.heap.size + 1) ((((Upd.refl (fun i => i = w.heap.size + 1) _).setCell (p := ⟨w.heap.size + 1, 0, none⟩) (.inl rfl) _).setCell (p := ⟨w.heap.size + 1, 1, none⟩) (.inl rfl) _).setCell (p := ⟨w.heap.size + 1, 2, none⟩) (.inl rfl) _) hno.out
      · exact (((hb5).setCell (p := ⟨w.heap.size + 1, 0, none⟩) (by simp) _).setCell (p := ⟨w.heap.size + 1, 1, none⟩) (by simp) _).setCell (p := ⟨w.heap.size + 1, 2, none⟩) (by simp) _
  · have hr : wd D k s v = (0, 0, ByteArray.empty) := by simp [wd, hc]
    have hd : dn D k s v = D := by simp [dn, hr]
    have hwq := hide hr
    have hdq := hide hd
    have hne : (ck k s v != 0) = true := by simp [hc]
    clear hr hd
    go_enter Try.func33, Try.ntmps33
    go_wp2_with (go_at_call 31; refine (cc _).mono ?_; rintro e w1 ⟨rfl, hb⟩; obtain ⟨y0, y1, y2, z0, z1, z2, zf0, zf1, zf2⟩ := box_facts hb)
    have hb5 : Below w.heap.size w w1 := (((Below.refl w.heap.size w).alloc (Nat.le_refl _) _).alloc (by simp) _).trans (hb.mono (by simp; omega))
    refine bodyPost_ret (v := .tuple #[.slice a D.length c, rV (0, 0, ByteArray.empty)]) (by simp [results, Try.results33, go_sem, rV, *] <;> rfl) rfl ⟨a, c, by rw [hdq.out, hwq.out], ?_, ?_, .inl ⟨rfl, rfl, hdq.out⟩⟩
    · rw [hdq.out]
      exact (hh.out.later (hb5)).upd (S := fun i => i = w.heap.size + 1) ((((Upd.refl (fun i => i = w.heap.size + 1) _).setCell (p := ⟨w.heap.size + 1, 0, none⟩) (.inl rfl) _).setCell (p := ⟨w.heap.size + 1, 1, none⟩) (.inl rfl) _).setCell (p := ⟨w.heap.size + 1, 2, none⟩) (.inl rfl) _) hno.out
    · exact (((hb5).setCell (p := ⟨w.heap.size + 1, 0, none⟩) (by simp) _).setCell (p := ⟨w.heap.size + 1, 1, none⟩) (by simp) _).setCell (p := ⟨w.heap.size + 1, 2, none⟩) (by simp) _

end Go.Proofs.Ytjkleldoeojbbaa

namespace Go.Proofs.Ytjkleldoeojbbaa
open Go.RowKit
set_option linter.unusedVariables false

theorem Took.keep {w w' : World} {b : Nat} {m : Option Nat} {L L' : List Cl} (t : Took w b m L' w') (l : Led w b m L) : ∀ g i u, g ≠ b → w.cell? ⟨g, i, none⟩ = some u → w'.cell? ⟨g, i, none⟩ = some u := fun g i u hg hc => by
  refine (t.upd.cell (p := ⟨g, i, none⟩) (World.block_lt_of_cell? _ _ hc) ?_).trans hc
  rintro (e | e)
  · exact hg e
  · exact map_ne_cells (l.sm _ e).2 hc rfl
theorem Took.refl {w : World} {b : Nat} {m : Option Nat} {L : List Cl} (l : Led w b m L) : Took w b m L w := ⟨m, l, .inl rfl, Upd.refl _ _⟩
theorem Took.on {w w' w'' : World} {b : Nat} {m : Option Nat} {L : List Cl} (t : Took w b m L w') (hb : Below w'.heap.size w' w'') : Took w b m L w'' := by
  obtain ⟨m', l, hm, hu⟩ := t
  refine ⟨m', l.upd (S := fun _ => False) (Upd.of_below hb) id (fun _ _ => id), hm, hu.trans ((Upd.of_below (S := fun _ => False) hb).mono (fun _ _ h => h.elim))⟩
theorem Took.trans {w w' w'' : World} {b : Nat} {m m' : Option Nat} {L L' : List Cl} (hm : m' = m ∨ ∃ j, m' = some j ∧ w.heap.size ≤ j) (hu : Upd (LS b m) w w') (t : Took w' b m' L' w'') : Took w b m L' w'' := by
  obtain ⟨m2, l2, hm2, hu2⟩ := t
  refine ⟨m2, l2, ?_, ⟨hu2.os.trans hu.os, hu2.tape.trans hu.tape, hu2.output.trans hu.output, Nat.le_trans hu.size hu2.size, fun k hk hs => ?_⟩⟩
  · rcases hm2 with e | ⟨j, e, hj⟩
    · rw [e]; exact hm
    · exact .inr ⟨j, e, Nat.le_trans hu.size hj⟩
  · refine (hu2.block k (Nat.lt_of_lt_of_le hk hu.size) ?_).trans (hu.block k hk hs)
    rintro (e | e)
    · exact hs (.inl e)
    · rcases hm with h | ⟨j, h, hj⟩
      · exact hs (.inr (h ▸ e))
      · rw [h] at e; cases e; omega
theorem SlC.kept {w w' : World} {b : Nat} {v : Value} {D : List Cl} {a : Option Addr} {c : Nat} (h : SlC w v D a c) (K : ∀ g i u, g ≠ b → w.cell? ⟨g, i, none⟩ = some u → w'.cell? ⟨g, i, none⟩ = some u) (hs : w.heap.size ≤ w'.heap.size) (hn : ∀ x, a = some x → D ≠ [] → x.block ≠ b) : SlC w' v D a c :=
  ⟨h.form, h.cap, h.max, h.nil, fun x hx => by
    rcases h.at_ x hx with h1 | ⟨q, o, rfl, hq, hl⟩
    · exact .inl h1
    · refine .inr ⟨q, o, rfl, Nat.lt_of_lt_of_le hq hs, ?_⟩
      by_cases hD : D = []
      · subst hD
        intro i d hd
        cases hd
      · intro i d hd
        have hb := hn _ hx hD
        exact ⟨K _ _ _ hb (hl i d hd).1, K _ _ _ hb (hl i d hd).2⟩⟩
theorem wd_wf {L : List Cl} (h : Ok L) {k s : Int} {v : ByteArray} (hs : (Lit.int .i64 s).wf = true) : (Lit.int .i64 (wd L k s v).2.1).wf = true := by
  have h1 := h.bh_le
  have h2 := bh_nonneg L
  have h3 := h.len_le
  have z : (Lit.int .i64 0).wf = true := by decide
  unfold wd
  split
  · exact z
  · split
    · split <;> exact hs
    · split
      · split
        · exact wf_i64 (by dsimp only; omega)
        · exact z
      · split
        · split <;> exact hs
        · exact wf_i64 (by dsimp only; omega)
end Go.Proofs.Ytjkleldoeojbbaa
