import Derived.Test.YtpkcoejjclmocaaLv
import Derived.Test.YtpkcoejjclmocaaLh
namespace Go.Proofs.Ytpkcoejjclmocaa
open Go.RowKit
set_option linter.unusedVariables false

theorem gv_take_succ {D : List Cl} {k : Nat} {d : Cl} {s : Int} (hd : D[k]? = some d) (h : gv (D.take k) s = none) : gv (D.take (k + 1)) s = if d.1 = s then some d.2 else none := by
  have e : D.take (k + 1) = D.take k ++ [d] := by rw [List.take_add_one, hd]; rfl
  rw [e]
  unfold gv at h ⊢
  rw [List.find?_append]
  cases hf : (D.take k).find? (fun p => p.1 == s) with
  | some x => simp [hf] at h
  | none => by_cases hc : d.1 = s <;> simp [hc]
theorem gv_mono {D : List Cl} {k : Nat} {s : Int} {v : ByteArray} (h : gv (D.take k) s = some v) : gv D s = some v := by
  have e : D = D.take k ++ D.drop k := (List.take_append_drop k D).symm
  rw [e]
  unfold gv at h ⊢
  rw [List.find?_append]
  cases hf : (D.take k).find? (fun p => p.1 == s) with
  | some x => simpa [hf] using h
  | none => simp [hf] at h
set_option maxRecDepth 100000 in
set_option maxHeartbeats 1000000 in
theorem refget_any (D : List Cl) (a : Option Addr) (c : Nat) (s : Int) (w : World) (h : SlC w (.slice a D.length c) D a c) :
    Calls Try.prog 78 #[.slice a D.length c, .int .i64 s] w fun e w' => e = .returned (.tuple #[.string ((gv D s).getD ByteArray.empty), .bool (gv D s).isSome]) ∧ w' = w := by
  have hmx := h.max
  have hcap := h.cap
  unfold maxLen at hmx
  have hh := hide h
  clear h
  go_enter Try.func78, Try.ntmps78
  go_wp2
  go_loopw [6] (fun i wr => ∃ k : Nat, i = .int .i64 (k : Int) ∧ k ≤ D.length ∧ gv (D.take k) s = none ∧ wr = w) (fun i _ => D.length - (intOf i).toNat)
  case atStart => exact ⟨0, rfl, Nat.zero_le _, rfl, rfl⟩
  case round =>
    obtain ⟨k, rfl, hk, hn, rfl⟩ := hrel
    by_cases hlt : k < D.length
    · have hg : D[k]? = some D[k] := List.getElem?_eq_getElem hlt
      have hne : D ≠ [] := by rintro rfl; simp at hlt
      have hst := gv_take_succ hg hn
      have hmo := fun v' => gv_mono (D := D) (k := k + 1) (s := s) (v := v')
      obtain ⟨q, o, rfl, hq, hl⟩ := hh.out.place hne
      obtain ⟨e0, e1⟩ := hl k _ hg
      clear hl hg hn
      generalize D[k] = p at *
      obtain ⟨s', v'⟩ := p
      dsimp only at e0 e1 hst
      by_cases hs : s' = s
      · subst hs
        have hr : gv D s' = some v' := hmo v' (by rw [hst]; simp)
        have hrh := hide hr
        clear hst hmo hr
        go_wp2
        go_ret2
        exact ⟨by rw [hrh.out]; rfl, rfl⟩
      · have hb : (s' == s) = false := by simp [hs]
        rw [if_neg hs] at hst
        have hsh := hide hst
        clear hst hmo
        go_wp2
        go_round
        case rel => exact ⟨k + 1, by go_num, by omega, hsh.out, by first | rfl | trivial⟩
        case measure => simp [intOf]; omega
    · rw [List.take_of_length_le (by omega)] at hn
      have hnh := hide hn
      clear hn
      go_wp2
      go_ret2
      exact ⟨by rw [hnh.out]; rfl, rfl⟩
theorem ins_none {c : Cl} : ∀ {L : List Cl}, (∀ p ∈ L, ¬ c.1 < p.1) → ins c L = L ++ [c]
  | [], _ => rfl
  | y :: r, h => by
    simp only [ins, h y (by simp), if_false, List.cons_append]
    rw [ins_none (fun p hp => h p (by simp [hp]))]
theorem ins_hit {c y : Cl} : ∀ {L : List Cl}, (∀ p ∈ L, ¬ c.1 < p.1) → c.1 < y.1 → ins c (L ++ [y]) = L ++ [c] ++ [y]
  | [], _, hy => by simp [ins, hy]
  | x :: r, h, hy => by
    simp only [ins, List.cons_append, h x (by simp), if_false]
    rw [ins_hit (fun p hp => h p (by simp [hp])) hy]
theorem ins_done {c y : Cl} : ∀ {L : List Cl}, (∃ p ∈ L, c.1 < p.1) → ins c (L ++ [y]) = ins c L ++ [y]
  | [], h => by simp at h
  | x :: r, h => by
    by_cases hx : c.1 < x.1
    · simp [ins, hx]
    · simp only [ins, List.cons_append, hx, if_false]
      rw [ins_done]
      obtain ⟨p, hp, hc⟩ := h
      rcases List.mem_cons.1 hp with rfl | hp
      · exact absurd hc hx
      · exact ⟨p, hp, hc⟩
theorem OwnC.grow {B : Nat} {w w' : World} {v : Value} {l : List Cl} (h : OwnC B w v l) (hb : Below w.heap.size w w') : OwnC B w' v l :=
  h.bel hb (Nat.le_refl _)
/-- A row of two cells. -/
def At2 (w : World) (g : Nat) (c : Cl) : Prop := w.cell? ⟨g, 0, none⟩ = some (.int .i64 c.1) ∧ w.cell? ⟨g, 1, none⟩ = some (.string c.2)
theorem At2.new (w : World) (c : Cl) (T : TypeId) : At2 (w.alloc (.cells #[.int .i64 c.1, .string c.2] T)) w.heap.size c := by
  refine ⟨?_, ?_⟩
  all_goals go_simp
theorem At2.on {w w' : World} {g : Nat} {c : Cl} (h : At2 w g c) {B : Nat} (hb : Below B w w') (hg : g < B) : At2 w' g c :=
  ⟨(hb.cell (p := ⟨g, 0, none⟩) hg).trans h.1, (hb.cell (p := ⟨g, 1, none⟩) hg).trans h.2⟩
set_option maxRecDepth 100000 in
set_option maxHeartbeats 1000000 in
theorem refput_any (D : List Cl) (a : Option Addr) (cp : Nat) (c : Cl) (w : World) (h : SlC w (.slice a D.length cp) D a cp) (hl : D.length ≤ 1024) :
    Calls Try.prog 79 #[.slice a D.length cp, .agg #[.int .i64 c.1, .string c.2]] w fun e w' => ∃ v, e = .returned v ∧ OwnC w.heap.size w' v (ins c D) ∧ Below w.heap.size w w' := by
  have hmx := h.max
  have hcap := h.cap
  unfold maxLen at hmx
  obtain ⟨s, v⟩ := c
  dsimp only
  obtain ⟨w1, hw1⟩ : ∃ w1, w.alloc (.cells #[.int .i64 s, .string v] 124) = w1 := ⟨_, rfl⟩
  have bw : Below w.heap.size w w1 := by rw [← hw1]; exact (Below.refl _ w).alloc (Nat.le_refl _) _
  have s1 : w1.heap.size = w.heap.size + 1 := by rw [← hw1]; simp
  have C1 : At2 w1 w.heap.size (s, v) := by rw [← hw1]; exact At2.new w (s, v) _
  have hh := hide (h.later bw)
  have hCh := hide C1
  have hs1 := hide s1
  clear h C1 s1
  go_enter Try.func79, Try.ntmps79
  go_wp2
  clear hw1
  go_loopw [7, 6, 5] (fun i d u wr => ∃ (k : Nat) (dn : Bool), i = .int .i64 (k : Int) ∧ d = .bool dn ∧ k ≤ D.length ∧ (dn = false → ∀ p ∈ D.take k, ¬ s < p.1) ∧ (dn = true → ∃ p ∈ D.take k, s < p.1) ∧ OwnC w1.heap.size wr u (if dn then ins (s, v) (D.take k) else D.take k) ∧ Below w1.heap.size w1 wr) (fun i _ _ _ => D.length - (intOf i).toNat)
  case atStart => exact ⟨0, false, rfl, rfl, Nat.zero_le _, by simp, by simp, OwnC.nil _ _, Below.refl _ _⟩
  case round =>
    obtain ⟨k, dn, rfl, rfl, hk, hf, ht, ho, hb⟩ := hrel
    have hsz := hb.size
    obtain ⟨e3, e4⟩ := hCh.out.on hb (by have := hs1.out; omega)
    dsimp only at e3 e4
    have hfh := hide hf
    have hth := hide ht
    clear hf ht
    by_cases hlt : k < D.length
    · have hg : D[k]? = some D[k] := List.getElem?_eq_getElem hlt
      have hne : D ≠ [] := by rintro rfl; simp at hlt
      have htk : D.take (k + 1) = D.take k ++ [D[k]] := by rw [List.take_add_one, hg]; rfl
      obtain ⟨q, o, rfl, hq, hl⟩ := (hh.out.later hb).place hne
      obtain ⟨e0, e1⟩ := hl k _ hg
      have hlt' : (D.take k).length ≤ 1024 := by simp; omega
      clear hl hg
      generalize D[k] = p at *
      obtain ⟨s', v'⟩ := p
      dsimp only at e0 e1
      have htkh := hide htk
      generalize hDk : D.take k = Dk at *
      clear htk hDk
      cases dn with
      | true =>
        simp only [if_true] at ho
        have hex := hth.out rfl
        have hli : (ins (s, v) Dk).length ≤ 1025 := by rw [len_ins]; omega
        have hdd := hide (ins_done (c := (s, v)) (y := (s', v')) hex)
        have hxx := hide hex
        generalize hI : ins (s, v) Dk = I at *
        clear hex
        go_wp2
        go_quiet (fail)
        have bq := belN hb nq
        have oq := ho.grow (belN (Below.refl _ wr) nq)
        have szq : (wr.drewN nq).heap.size = wr.heap.size := rfl
        go_wp2_with (at_builtin; go_must (refine app_cell _ rfl (.tmp 30) (.tmp 35) rfl w1.heap.size I _ rfl ⟨wr.heap.size, 0, none⟩ rfl s' v' (At2.new (wr.drewN nq) (s', v') _).1 (At2.new (wr.drewN nq) (s', v') _).2 (oq.alloc _) (by simp; omega) (by omega) ?y1))
        case y1 =>
          intro u3 w3 o3 hn3 hg3
          have b3 := (bq.alloc bq.size (.cells #[.int .i64 s', .string v'] 124)).grown hg3 (by have := bq.size; simp at this ⊢; omega) (fun k hk => (World.ownsRow.lt (oq.alloc (.cells #[.int .i64 s', .string v'] 124)) k hk).1)
          have bh3 := hide b3
          clear hg3 b3
          go_wp2
          go_round
          case rel => exact ⟨k + 1, true, by go_num, rfl, by omega, by simp, fun _ => by rw [htkh.out]; obtain ⟨p, hp, hc⟩ := hxx.out; exact ⟨p, by simp [hp], hc⟩, by rw [htkh.out]; simp only [if_true]; rw [hdd.out]; exact o3, bh3.out⟩
          case measure => simp [intOf]; omega
      | false =>
        simp only [Bool.false_eq_true, if_false] at ho
        have hno := hfh.out rfl
        by_cases hc : s < s'
        · have hhit := hide (ins_hit (c := (s, v)) (y := (s', v')) hno hc)
          have htt : decide (s < s') = true := by simp [hc]
          go_wp2
          go_quiet (fail)
          have bq := belN hb nq
          have oq := ho.grow (belN (Below.refl _ wr) nq)
          go_wp2_with (at_builtin; go_must (refine app_cell _ rfl (.tmp 26) (.tmp 28) rfl w1.heap.size Dk _ rfl ⟨wr.heap.size, 0, none⟩ rfl s v (At2.new (wr.drewN nq) (s, v) _).1 (At2.new (wr.drewN nq) (s, v) _).2 (oq.alloc _) (by simp; omega) (by omega) ?y2))
          case y2 =>
            intro u3 w3 o3 hn3 hg3
            have b3 := (bq.alloc bq.size (.cells #[.int .i64 s, .string v] 124)).grown hg3 (by have := bq.size; simp at this ⊢; omega) (fun k hk => (World.ownsRow.lt (oq.alloc (.cells #[.int .i64 s, .string v] 124)) k hk).1)
            have hl3 : (Dk ++ [(s, v)]).length ≤ 1025 := by simp; omega
            have hqq : q < w1.heap.size := by
              obtain ⟨q', o', e', hq', _⟩ := hh.out.place hne
              cases e'
              exact hq'
            have f0 := (b3.cell (p := ⟨q, o + k * 2, none⟩) hqq).trans ((hb.cell (p := ⟨q, o + k * 2, none⟩) hqq).symm.trans e0)
            have f1 := (b3.cell (p := ⟨q, o + k * 2 + 1, none⟩) hqq).trans ((hb.cell (p := ⟨q, o + k * 2 + 1, none⟩) hqq).symm.trans e1)
            clear hg3
            generalize hDc : Dk ++ [(s, v)] = Dc at *
            go_wp2_with (at_builtin; go_must (refine app_cell _ rfl (.tmp 30) (.tmp 35) rfl w1.heap.size Dc _ rfl ⟨w3.heap.size, 0, none⟩ rfl s' v' (At2.new w3 (s', v') _).1 (At2.new w3 (s', v') _).2 (o3.alloc _) (by have := b3.size; simp at this ⊢; omega) (by omega) ?y3))
            case y3 =>
              intro u4 w4 o4 hn4 hg4
              have b4 := (b3.alloc b3.size (.cells #[.int .i64 s', .string v'] 124)).grown hg4 (by have := b3.size; simp at this ⊢; omega) (fun k hk => (World.ownsRow.lt (o3.alloc (.cells #[.int .i64 s', .string v'] 124)) k hk).1)
              have bh4 := hide b4
              clear hg4 b4
              go_wp2
              go_round
              case rel => exact ⟨k + 1, true, by go_num, rfl, by omega, by simp, fun _ => by rw [htkh.out]; exact ⟨(s', v'), by simp, hc⟩, by rw [htkh.out]; simp only [if_true]; rw [hhit.out]; exact o4, bh4.out⟩
              case measure => simp [intOf]; omega
        · have htt : decide (s < s') = false := by simp; omega
          go_wp2
          go_quiet (fail)
          have bq := belN hb nq
          have oq := ho.grow (belN (Below.refl _ wr) nq)
          go_wp2_with (at_builtin; go_must (refine app_cell _ rfl (.tmp 30) (.tmp 35) rfl w1.heap.size Dk _ rfl ⟨wr.heap.size, 0, none⟩ rfl s' v' (At2.new (wr.drewN nq) (s', v') _).1 (At2.new (wr.drewN nq) (s', v') _).2 (oq.alloc _) (by simp; omega) (by omega) ?y4))
          case y4 =>
            intro u3 w3 o3 hn3 hg3
            have b3 := (bq.alloc bq.size (.cells #[.int .i64 s', .string v'] 124)).grown hg3 (by have := bq.size; simp at this ⊢; omega) (fun k hk => (World.ownsRow.lt (oq.alloc (.cells #[.int .i64 s', .string v'] 124)) k hk).1)
            have bh3 := hide b3
            clear hg3 b3
            go_wp2
            go_round
            case rel => exact ⟨k + 1, false, by go_num, rfl, by omega, fun _ => by rw [htkh.out]; intro p hp; rcases List.mem_append.1 hp with hp | hp; (have := hno p hp; omega); (simp at hp; subst hp; dsimp only; omega), by simp, by rw [htkh.out]; simp only [Bool.false_eq_true, if_false]; exact o3, bh3.out⟩
            case measure => simp [intOf]; omega
    · obtain rfl : k = D.length := by omega
      rw [List.take_of_length_le (Nat.le_refl _)] at ho hfh hth
      have hs1' := hs1.out
      cases dn with
      | true =>
        simp only [if_true] at ho
        go_wp2
        go_ret
        exact ⟨_, rfl, ho.low (by omega), bw.trans (hb.mono (by omega))⟩
      | false =>
        simp only [Bool.false_eq_true, if_false] at ho
        have hin := hide (ins_none (c := (s, v)) (hfh.out rfl))
        have hh1 := hide hs1'
        clear hs1'
        go_wp2_with (at_builtin; go_must (refine app_cell _ rfl (.tmp 39) (.tmp 41) rfl w1.heap.size D _ rfl ⟨wr.heap.size, 0, none⟩ rfl s v (At2.new wr (s, v) _).1 (At2.new wr (s, v) _).2 (ho.alloc _) (by simp; omega) (by omega) ?y5))
        case y5 =>
          intro u3 w3 o3 hn3 hg3
          have b3 := (hb.alloc hb.size (.cells #[.int .i64 s, .string v] 124)).grown hg3 (by have := hb.size; simp at this ⊢; omega) (fun k hk => (World.ownsRow.lt (ho.alloc (.cells #[.int .i64 s, .string v] 124)) k hk).1)
          have bh3 := hide b3
          clear hg3 b3
          go_wp2
          go_ret
          have := hh1.out
          exact ⟨_, rfl, by rw [hin.out]; exact o3.low (by omega), bw.trans (bh3.out.mono (by omega))⟩

end Go.Proofs.Ytpkcoejjclmocaa
