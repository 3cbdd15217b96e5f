import Derived.Test.YtpkcoejjclmocaaMl
namespace Go.Proofs.Ytpkcoejjclmocaa
open Go.RowKit
set_option linter.unusedVariables false

theorem rcs_one3 (w : World) (r : Rs) (T : TypeId) (g : Nat) (h : At3 w g r.1 r.2.1 r.2.2) : ∀ j u, (rcs [r])[j]? = some u → w.cell? ((⟨g, 0, none⟩ : Addr).add j) = some u := by
  intro j u hu
  rw [Addr.add_lit, Nat.zero_add]
  match j, hu with
  | 0, hu => simp [rcs] at hu; subst hu; exact h.1
  | 1, hu => simp [rcs] at hu; subst hu; exact h.2.1
  | 2, hu => simp [rcs] at hu; subst hu; exact h.2.2
  | j + 3, hu => simp [rcs] at hu
set_option maxRecDepth 100000 in
set_option maxHeartbeats 1000000 in
theorem refreplay_any (P : List Opn) (a : Option Addr) (cap : Nat) (w : World) (hP : Ops w a P) (hf : ∀ p ∈ P, p.fits) (hl : P.length * 32 ≤ 140737488351232) :
    Calls Try.prog 60 #[.slice a P.length cap] w fun e w' => ∃ vc vr, e = .returned (.tuple #[vc, vr]) ∧ OwnC w.heap.size w' vc (pl [] P) ∧ Own3 43 w.heap.size w' vr (rl [] P) ∧ Below w.heap.size w w' := by
  have HP := hide hP
  have HF := hide hf
  clear hP hf
  have hlz : (P.length : Int) ≤ 9223372036854775807 := by omega
  go_enter Try.func60, Try.ntmps60
  go_wp2
  go_loopw [6, 4, 5] (fun i vc vr wr => ∃ j : Nat, i = .int .i64 (j : Int) ∧ j ≤ P.length ∧ OwnC w.heap.size wr vc (pl [] (P.take j)) ∧ Own3 43 w.heap.size wr vr (rl [] (P.take j)) ∧ Below w.heap.size w wr) (fun i _ _ _ => P.length - (intOf i).toNat)
  case atStart => exact ⟨0, rfl, Nat.zero_le _, OwnC.nil _ _, Own3.nil _ _ _, Below.refl _ _⟩
  case round =>
    obtain ⟨j, rfl, hj, oC, oR, hb⟩ := hrel
    by_cases hlt : j < P.length
    · have hg : P[j]? = some P[j] := List.getElem?_eq_getElem hlt
      have ht := pl_take [] hg
      have hr := rl_take [] hg
      have hfj := HF.out P[j] (List.getElem_mem hlt)
      obtain ⟨q, o, ea, c0, c1, c2⟩ := HP.out.later hb j hlt
      have hrl : (rl [] (P.take j)).length = j := by rw [rl_length]; simp; omega
      have hok := Ok.nil.pl (P.take j)
      generalize P[j] = p at *
      obtain ⟨k, s, v⟩ := p
      subst ea
      dsimp only at c0 c1 c2 ht hr
      have hth := hide ht
      have hrh := hide hr
      generalize pl [] (P.take j) = L at *
      generalize rl [] (P.take j) = Rj at *
      clear ht hg hr
      obtain ⟨aj, cj, hsl, _⟩ := oC.sl
      have hvf := hsl.form
      subst hvf
      have cdo := refdo_own L aj cj k s v hfj wr hsl hok
      have hsz := hb.size
      have hoC := hide oC
      have hoR := hide oR
      clear oC oR hsl
      dsimp only [rV] at cdo
      go_wp2_with fail
      refine cdo.mono ?_
      rintro e w1 ⟨a1, q1, rfl, sl1, b1, hz1⟩
      obtain ⟨z0, z1, z2⟩ := At3.new w1 (wd L k s v).1 (wd L k s v).2.1 (wd L k s v).2.2 43
      have oC1 : OwnC w.heap.size w1 (.slice a1 (dn L k s v).length q1) (dn L k s v) := by
        rcases hz1 with ⟨rfl, rfl, e⟩ | h
        · rw [e]; exact hoC.out.grow b1
        · exact h.low hsz
      have oR1 := hoR.out.grow b1
      have bw1 := hb.trans (b1.mono hsz)
      have hs1 := bw1.size
      have oC1h := hide oC1
      have oR1h := hide oR1
      have bw1h := hide bw1
      clear oC1 oR1 bw1 hz1 sl1 b1 hoC hoR
      go_wp2_with (at_builtin; go_must (refine app3 tyRes _ rfl (.tmp 25) (.tmp 27) rfl w.heap.size Rj _ rfl ⟨w1.heap.size + 1, 0, none⟩ 1 1 rfl [wd L k s v] rfl ?yn ((oR1h.out.alloc _).alloc _) (by simp; omega) (by rw [hrl]; omega) ?yk))
      case yn => exact rcs_one3 _ (wd L k s v) 43 (w1.heap.size + 1) (by have := At3.new (w1.alloc (.cells #[.int .i64 (wd L k s v).1, .int .i64 (wd L k s v).2.1, .string (wd L k s v).2.2] 43)) (wd L k s v).1 (wd L k s v).2.1 (wd L k s v).2.2 43; rw [World.size_alloc] at this; exact this)
      case yk =>
        intro v3 w3 o3 hg3
        have oRR := (oR1h.out.alloc (.cells #[.int .i64 (wd L k s v).1, .int .i64 (wd L k s v).2.1, .string (wd L k s v).2.2] 43)).alloc (.cells #[.int .i64 (wd L k s v).1, .int .i64 (wd L k s v).2.1, .string (wd L k s v).2.2] 43)
        have oCC := (oC1h.out.alloc (.cells #[.int .i64 (wd L k s v).1, .int .i64 (wd L k s v).2.1, .string (wd L k s v).2.2] 43)).alloc (.cells #[.int .i64 (wd L k s v).1, .int .i64 (wd L k s v).2.1, .string (wd L k s v).2.2] 43)
        have oC3 : OwnC w.heap.size w3 (.slice a1 (dn L k s v).length q1) (dn L k s v) := World.ownsRow.kept oCC hg3 (by
          cases hob : (Value.slice a1 (dn L k s v).length q1).ownBlock with
          | none => exact .inl rfl
          | some gg => exact .inr (fun e => own3_cells_ne oRR oCC (by decide) gg hob e.symm))
        have b3 : Below w.heap.size w w3 := ((bw1h.out.alloc hs1 _).alloc (by simp; omega) _).grown hg3 (by simp; omega) (fun k hk => (World.ownsRow.lt oRR k hk).1)
        have oC3h := hide oC3
        have b3h := hide b3
        clear oC3 b3 oRR oCC hg3
        go_wp2
        go_round
        case rel => exact ⟨j + 1, by go_num, by omega, by rw [hth.out]; exact oC3h.out, by rw [hrh.out]; exact o3, b3h.out⟩
        case measure => simp [intOf]; omega
    · obtain rfl : j = P.length := by omega
      rw [List.take_of_length_le (Nat.le_refl _)] at oC oR
      have oCh := hide oC
      have oRh := hide oR
      clear oC oR
      go_wp2
      go_ret2
      exact ⟨_, _, rfl, oCh.out, oRh.out, hb⟩
end Go.Proofs.Ytpkcoejjclmocaa
