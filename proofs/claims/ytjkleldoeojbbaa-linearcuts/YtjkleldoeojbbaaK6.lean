import Derived.Test.YtjkleldoeojbbaaK5
import Derived.Maps.RangeWalk
namespace Go.Proofs.Ytjkleldoeojbbaa
open Go.RowKit Go.Maps
set_option linter.unusedVariables false
set_option linter.unusedSimpArgs false

theorem ret18 {k : IntKind} {a b : Int} (h : a = b) : Ending.returned (.int k a) = .returned (.int k b) := by rw [h]
/-- 'make' of a map with room for some. -/
theorem run_makeMapN {t k e : TypeId} (ht : Try.prog.underlying t = some (.map k e)) (n : Int) (w : World) : (Instr.makeMap t (some (.int .i64 n))).run Try.prog w = .ok (.map (some w.heap.size)) (w.alloc (.map #[] 0)) := by
  simp [Instr.makeMap, run_underlying ht, asInt, asIntOf, Result.andThen]
/-- Which requests were met. -/
def mF (l : List Kl) (k : Int × Int) : Option Value := if hasK l k.1 k.2 then some (.agg #[]) else none
theorem mF_snoc {l l' : List Kl} {x : Kl} (h : l' = l ++ [x]) {g : Int × Int → Option Value} (g0 : g (x.c, x.n) = some (.agg #[])) (g1 : ∀ k, k ≠ (x.c, x.n) → g k = mF l k) (k : Int × Int) : mF l' k = g k := by
  subst h
  by_cases e : k = (x.c, x.n)
  · rw [e, g0]
    unfold mF
    rw [hasK_snoc]
    simp
  · rw [g1 k e]
    unfold mF
    rw [hasK_snoc]
    have : (decide (x.c = k.1) && decide (x.n = k.2)) = false := by
      rw [Bool.and_eq_false_iff]
      by_cases e1 : x.c = k.1
      · right
        refine decide_eq_false (fun e2 => e ?_)
        rw [e1, e2]
      · exact .inl (decide_eq_false e1)
    rw [this, Bool.or_false]
set_option maxRecDepth 100000 in
set_option maxHeartbeats 1000000 in
theorem check18_any (L : List Kl) (a : Option Addr) (c : Nat) (w : World) (h : SlY yK w a L.length c L) (hf : ∀ x ∈ L, x.fits) :
    Calls Try.prog 30 #[.slice a L.length c] w fun e w' => e = .returned (.int .i64 (kchk L)) ∧ Below w.heap.size w w' := by
  have hmx := h.max
  have hcp := h.cap
  unfold maxLen at hmx
  have hmm := fun n W => run_makeMapN Try.underlying138 n W
  have H := hide h
  have HF := hide hf
  have HE : Hid (kchk L = kcA (L.take 0) (L.drop 0)) := by show _ = _; simp [kchk]
  generalize kchk L = X at *
  clear h hf
  go_enter Try.func30, Try.ntmps30
  go_wp2
  go_loopw [14] (fun i wr => ∃ j : Nat, i = .int .i64 (j : Int) ∧ j ≤ L.length ∧ MapG zRq wr w.heap.size j (mF (L.take j)) ∧ Below w.heap.size w wr ∧ X = kcA (L.take j) (L.drop j)) (fun i _ => L.length - (intOf i).toNat)
  case atStart => exact ⟨0, rfl, Nat.zero_le _, (MapG.made zRq w).ext (fun k _ => by simp [mF, hasK]), (Below.refl _ _).alloc (Nat.le_refl _) _, HE.out⟩
  case round =>
    obtain ⟨j, rfl, hj, hm, hb, hX⟩ := hrel
    by_cases hlt : j < L.length
    · obtain ⟨x, hx⟩ : ∃ x, L[j]? = some x := ⟨_, List.getElem?_eq_getElem hlt⟩
      obtain ⟨q, o, rfl, KX⟩ := (H.out.upd (S := fun k => w.heap.size ≤ k) ⟨hb.os, hb.tape, hb.output, hb.size, fun k hk hs => hb.block k (by omega)⟩ (fun y hy hne => by
        rcases H.out.at_ y hy with e | ⟨q, o, rfl, hq, _⟩
        · exact absurd e hne
        · show ¬ (w.heap.size ≤ q); omega)).kl hx
      have fx := HF.out x (List.mem_of_getElem? hx)
      have hX2 := hide (hX.trans (kcA_at hx))
      have hT := hide (show L.take (j + 1) = L.take j ++ [x] by rw [List.take_add_one, hx]; rfl)
      clear hX
      obtain ⟨_, e0, e1, e2, e3, e4, e5, e6, e7, e8, e9⟩ := KX
      have hsz := hb.size
      have MH := hide hm
      have BH := hide hb
      clear hm hb
      have ce := fun W => entryOf_any x W
      have cq := fun W => requestOf_any x.c x.n x.o.k x.o.s x.o.v W
      have cm := fun W => mayBe_any x fx W
      have hk : zRq.ok (x.c, x.n) := ⟨fx.cw, fx.nw⟩
      have HK := hide hk
      clear hk fx
      unfold Kl.val at ce cm
      have bx := hide ((Below.refl wr.heap.size wr).alloc (Nat.le_refl _) (.cells x.cs.toArray 66))
      have kx := hide (KB.new wr x 66)
      unfold Kl.cs at bx kx
      have hlk : Hid (∀ W, Below wr.heap.size wr W → (Instr.lookup 138 (.map (some w.heap.size)) (.agg #[.int .i64 x.c, .int .i64 x.n]) true).run Try.prog W = .ok (.tuple #[.agg #[], .bool (hasK (L.take j) x.c x.n)]) W) := fun W hW => by
        have := (MH.out.later hW).look kRq true (t := 138) Try.underlying138 (z := .agg #[]) (by kernel_rfl) HK.out
        refine this.trans ?_
        unfold mF
        cases hasK (L.take j) x.c x.n <;> rfl
      cases hh : hasK (L.take j) x.c x.n with
      | true =>
        rw [hh] at hlk
        have hX3 : Hid (X = 180) := by
          have := hX2.out
          rw [hh] at this
          exact this
        clear hX2
        go_wp2_with (first
          | (go_at_call 55; refine (ce _).mono ?_; rintro e w1 ⟨rfl, b1⟩)
          | (go_at_call 61; refine (cq _).mono ?_; rintro e w2 ⟨rfl, b2⟩; have hb3 := bx.out.trans ((b1.trans (b2.mono b1.size)).mono (by simp)); have hl3 := hlk.out _ (hb3.alloc hb3.size (.cells #[.int .i64 x.c, .int .i64 x.n] 140)); obtain ⟨kl, k0, k1, k2, k3, k4, k5, k6, k7, k8, k9⟩ := (kx.out.later b1).later b2; have n1 : wr.heap.size ≠ w2.heap.size := (by omega); have n2 : wr.heap.size ≠ w2.heap.size + 1 := (by omega)))
        go_ret
        exact ⟨ret18 hX3.out.symm, BH.out.trans (((hb3.alloc hb3.size _).alloc (by have := hb3.size; simp; omega) _).mono hsz)⟩
      | false =>
        rw [hh] at hlk
        cases hy : mayK x with
        | false =>
          rw [hy] at cm
          have hX3 : Hid (X = 180) := by
            have := hX2.out
            rw [hh, hy] at this
            exact this
          clear hX2
          go_wp2_with (first
          | (go_at_call 55; refine (ce _).mono ?_; rintro e w1 ⟨rfl, b1⟩)
          | (go_at_call 61; refine (cq _).mono ?_; rintro e w2 ⟨rfl, b2⟩; have hb3 := bx.out.trans ((b1.trans (b2.mono b1.size)).mono (by simp)); have hl3 := hlk.out _ (hb3.alloc hb3.size (.cells #[.int .i64 x.c, .int .i64 x.n] 140)); obtain ⟨kl, k0, k1, k2, k3, k4, k5, k6, k7, k8, k9⟩ := (kx.out.later b1).later b2; have n1 : wr.heap.size ≠ w2.heap.size := (by omega); have n2 : wr.heap.size ≠ w2.heap.size + 1 := (by omega))
          | (go_at_call 62; refine (cm _).mono ?_; rintro e w3 ⟨rfl, b3⟩))
          go_ret
          exact ⟨ret18 hX3.out.symm, BH.out.trans ((((hb3.alloc hb3.size _).alloc (by have := hb3.size; simp; omega) _).trans (b3.mono (by have := hb3.size; simp; omega))).mono hsz)⟩
        | true =>
          rw [hy] at cm
          have hX3 : Hid (X = kcA (L.take (j + 1)) (L.drop (j + 1))) := by
            have := hX2.out
            rw [hh, hy] at this
            exact this
          clear hX2
          have hjm : j < maxLen := by unfold maxLen; omega
          have HJ := hide hjm
          clear hjm
          go_wp2_with (first
          | (go_at_call 55; refine (ce _).mono ?_; rintro e w1 ⟨rfl, b1⟩)
          | (go_at_call 61; refine (cq _).mono ?_; rintro e w2 ⟨rfl, b2⟩; have hb3 := bx.out.trans ((b1.trans (b2.mono b1.size)).mono (by simp)); have hl3 := hlk.out _ (hb3.alloc hb3.size (.cells #[.int .i64 x.c, .int .i64 x.n] 140)); obtain ⟨kl, k0, k1, k2, k3, k4, k5, k6, k7, k8, k9⟩ := (kx.out.later b1).later b2; have n1 : wr.heap.size ≠ w2.heap.size := (by omega); have n2 : wr.heap.size ≠ w2.heap.size + 1 := (by omega))
          | (go_at_call 62; refine (cm _).mono ?_; rintro e w3 ⟨rfl, b3⟩; have hb4 := ((hb3.alloc hb3.size (.cells #[.int .i64 x.c, .int .i64 x.n] 140)).alloc (by have := hb3.size; simp; omega) (.cells #[] 142)).trans (b3.mono (by have := hb3.size; simp; omega)); have m0 : w3.cell? ⟨w2.heap.size, 0, none⟩ = some (.int .i64 x.c) := (b3.cell (p := ⟨w2.heap.size, 0, none⟩) (by simp; omega)).trans (by go_simp); have m1 : w3.cell? ⟨w2.heap.size, 1, none⟩ = some (.int .i64 x.n) := (b3.cell (p := ⟨w2.heap.size, 1, none⟩) (by simp; omega)).trans (by go_simp))
          | (at_mapUpdate; refine mapG_put kRq _ rfl _ _ _ 138 rfl 142 Try.underlying138 w.heap.size j _ rfl (MH.out.later hb4) HJ.out (x.c, x.n) HK.out _ rfl rfl ?_; intro w5 g5 g50 g51 hm5 hg5)
          | go_in)
          have M5 : Hid (MapG zRq w5 w.heap.size (j + 1) (mF (L.take (j + 1)))) := hm5.ext (fun k _ => mF_snoc hT.out g50 g51 k)
          have B5 : Hid (Below w.heap.size w w5) := (BH.out.trans (hb4.mono hsz)).grown hg5 (by have := hb4.size; omega) (fun k hk => by cases hk; exact Nat.le_refl _)
          clear hm5 hg5
          go_round
          case rel => exact ⟨j + 1, by go_num, by omega, M5.out, B5.out, hX3.out⟩
          case measure => simp [intOf]; omega
    · obtain rfl : j = L.length := by omega
      have hX3 : Hid (X = 0) := hX.trans (kcA_end L)
      clear hX
      have BH := hide hb
      clear hb hm
      go_wp2
      go_ret
      exact ⟨ret18 hX3.out.symm, BH.out⟩

end Go.Proofs.Ytjkleldoeojbbaa
