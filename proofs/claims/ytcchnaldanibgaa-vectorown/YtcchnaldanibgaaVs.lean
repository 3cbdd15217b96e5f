import Derived.Test.YtcchnaldanibgaaVr
namespace Go.Proofs.Ytcchnaldanibgaa
open Go.RowKit
set_option linter.unusedVariables false
set_option linter.unusedSimpArgs false

theorem OwnV.form' {B : Nat} {w : World} {v : Value} {l : List Vec} (h : OwnV B w v l) : ∃ a c, v = .slice a l.length c ∧ l.length ≤ c ∧ c ≤ maxLen ∧ (l ≠ [] → ∃ g, a = some ⟨g, 0, none⟩ ∧ B ≤ g ∧ g < w.heap.size) := by
  by_cases hl : l = []
  · rcases h.2 with ⟨e1, e2⟩ | ⟨g, cap, cur, e1, e2, e3, e4, e5, _⟩
    · exact ⟨none, 0, by rw [e1, hl]; rfl, by rw [hl]; simp, by unfold maxLen; omega, fun h => absurd hl h⟩
    · exact ⟨_, cap, e1, e4, e5, fun h => absurd hl h⟩
  · obtain ⟨g, c, h1, h2, h3, h4, h5⟩ := h.form hl
    exact ⟨_, c, h1, h2, h3, fun _ => ⟨g, rfl, h4, h5⟩⟩

set_option maxRecDepth 100000 in
set_option maxHeartbeats 2000000 in
theorem intact_any (b B : Nat) (v2 v3 : Value) (L2 L3 : List Vec) (w : World) (G : GX w b B v2 v3 L2 L3) (hD : L2.map (·.D) = L3.map (·.D)) :
    Calls Try.prog 19 #[.pointer (some ⟨b, 0, none⟩)] w fun e w' => e = .returned (.bool true) ∧ Below w.heap.size w w' := by
  have d0 := G.c0
  have d2 := G.c2
  have d3 := G.c3
  have d4 := G.c4
  have d6 := G.c6
  have d8 := G.c8
  have hl : L3.length = L2.length := by
    have := congrArg List.length hD
    simpa using this.symm
  obtain ⟨a2, e2, rfl, m2, m2', p2⟩ := G.o2.form'
  obtain ⟨a3, e3, rfl, m3, m3', p3⟩ := G.o3.form'
  rw [hl] at d3 m3
  unfold maxLen at m2' m3'
  have HG := hide G
  have HD := hide hD
  have HL := hide hl
  have P2 := hide p2
  have P3 := hide p3
  clear G hD hl p2 p3
  generalize hn : L2.length = n at *
  have HN := hide hn
  clear hn
  go_enter Try.func19, Try.ntmps19
  go_wp2_with fail
  go_loopw [3] (fun i wr => i = .int .i64 0 ∧ wr = w) (fun _ _ => 0)
  case atStart => exact ⟨rfl, rfl⟩
  case round =>
    obtain ⟨rfl, e1⟩ := hrel
    subst e1
    go_wp2_with fail
    go_loopw [4] (fun i ws => i = .int .i64 0 ∧ ws = wr) (fun _ _ => 0)
    case atStart => exact ⟨rfl, rfl⟩
    case round =>
      obtain ⟨rfl, e1⟩ := hrel
      subst e1
      go_wp2_with fail
      go_loopw [5] (fun i ws => i = .int .i64 0 ∧ ws = wr) (fun _ _ => 0)
      case atStart => exact ⟨rfl, rfl⟩
      case round =>
        obtain ⟨rfl, e1⟩ := hrel
        subst e1
        obtain ⟨w0, hw0⟩ : ∃ w0, w0 = wr := ⟨_, rfl⟩
        subst hw0
        go_wp2_with fail
        go_loopw [6] (fun i ws => ∃ j : Nat, i = .int .i64 (j : Int) ∧ j ≤ n ∧ Below w0.heap.size w0 ws) (fun i _ => n - (intOf i).toNat)
        case atStart => exact ⟨0, rfl, Nat.zero_le _, Below.refl _ _⟩
        case round =>
          obtain ⟨j, rfl, hj, hb⟩ := hrel
          have G2 := hide (HG.out.bel hb)
          have d2 := G2.out.c2
          have d3 := G2.out.c3
          have d4 := G2.out.c4
          rw [HL.out] at d3
          by_cases hlt : j < n
          · obtain ⟨x, hx⟩ : ∃ x, L2[j]? = some x := ⟨_, List.getElem?_eq_getElem (by rw [HN.out]; exact hlt)⟩
            obtain ⟨y, hy⟩ : ∃ y, L3[j]? = some y := ⟨_, List.getElem?_eq_getElem (by rw [HL.out]; exact hlt)⟩
            have hxy : x.D = y.D := by
              have h1 := congrArg (fun l => l[j]?) HD.out
              simp only [List.getElem?_map, hx, hy, Option.map_some] at h1
              exact Option.some.inj h1
            obtain ⟨g2, rfl, _, hg2⟩ := P2.out (by rintro rfl; simp at hx)
            obtain ⟨g3, rfl, _, hg3⟩ := P3.out (by rintro rfl; simp at hy)
            have q2 := G2.out.o2.cell j x hx
            have q3 := G2.out.o3.cell j y hy
            have sx : SlN wr x.a x.D.length x.c x.D := by
              obtain ⟨a', c', hs, _⟩ := (G2.out.d2 x (List.mem_of_getElem? hx)).sl
              have hf := hs.form
              injection hf with f1 f2 f3
              subst f1 f3
              exact ⟨rfl, hs⟩
            have sy : SlN wr y.a y.D.length y.c y.D := by
              obtain ⟨a', c', hs, _⟩ := (G2.out.d3 y (List.mem_of_getElem? hy)).sl
              have hf := hs.form
              injection hf with f1 f2 f3
              subst f1 f3
              exact ⟨rfl, hs⟩
            have HH := fun k => hide (sameN (sx.bel (below_drewN (Below.refl _ _) k)) (sy.bel (below_drewN (Below.refl _ _) k)))
            rw [decide_eq_true hxy] at HH
            clear sx sy hx hy hxy HG G2 P2 P3 HD HL HN
            generalize x.D.length = lx at *
            generalize y.D.length = ly at *
            generalize x.a = xa at *
            generalize y.a = ya at *
            generalize x.c = xc at *
            generalize y.c = yc at *
            go_wp2_with fail
            go_quiet ((go_at_call 16; exact Calls.quiet_of (HH _).out))
            go_wp2
            go_round
            case rel => exact ⟨j + 1, by go_num, by omega, below_drewN hb nq⟩
            case measure => simp [intOf]; omega
          · obtain rfl : j = n := by omega
            clear HG G2 P2 P3 HD HL HN
            go_wp2_with fail
            go_loopw [7] (fun i ws => i = .int .i64 0 ∧ ws = wr) (fun _ _ => 0)
            case atStart => exact ⟨rfl, rfl⟩
            case round =>
              obtain ⟨rfl, e1⟩ := hrel
              subst e1
              go_wp2
              go_ret
              exact ⟨rfl, hb⟩

end Go.Proofs.Ytcchnaldanibgaa
