import Derived.Test.YtomiifnhcojilaaHb
namespace Go.Proofs.Ytomiifnhcojilaa
open Go.RowKit Go.Maps
open Classical
set_option linter.unusedVariables false
set_option linter.unusedSimpArgs false

theorem OwnY.row {α : Type} {T ST : TypeId} (hz : (yS α T ST).Ok) {B : Nat} {w : World} {a : Option Addr} {n c : Nat} {L : List (SV α)} (h : OwnY (yS α T ST) B w (.slice a n c) L) {j : Nat} {x : SV α} (hx : L[j]? = some x) : ∃ g, a = some ⟨g, 0, none⟩ ∧ w.cell? ⟨g, j, none⟩ = some (.slice x.a x.D.length x.c) := by
  obtain ⟨a', c', e, _, _, hn, hs⟩ := h.form
  injection e with e1 e2 e3
  subst e1
  cases a with
  | none => have := (hn rfl).1; rw [this] at hx; simp at hx
  | some z =>
    obtain ⟨g, rfl, _, _⟩ := hs z rfl
    refine ⟨g, rfl, ?_⟩
    have := h.cell hz j x hx 0 _ rfl
    simpa [yS] using this
theorem map_at {α : Type} {La Lb : List (SV α)} (h : La.map (·.D) = Lb.map (·.D)) {j : Nat} {x y : SV α} (hx : La[j]? = some x) (hy : Lb[j]? = some y) : x.D = y.D := by
  have h1 := congrArg (fun l => l[j]?) h
  simp only [List.getElem?_map, hx, hy, Option.map_some] at h1
  exact Option.some.inj h1
theorem len_map {α : Type} {La Lb : List (SV α)} (h : La.map (·.D) = Lb.map (·.D)) : Lb.length = La.length := by
  have := congrArg List.length h
  simpa using this.symm
set_option maxRecDepth 100000 in
set_option maxHeartbeats 4000000 in
theorem intactM_any (b B : Nat) (v2 v3 v4 v5 : Value) (Da Db : List (SV (Int × Int))) (La Lb : List (SV En)) (w : World) (G : GM w b B v2 v3 v4 v5 Da Db La Lb) (hD : Da.map (·.D) = Db.map (·.D)) (hL : La.map (·.D) = Lb.map (·.D)) :
    Calls Try.prog 18 #[.pointer (some ⟨b, 0, none⟩)] w fun e w' => e = .returned (.bool true) ∧ ∃ n, w' = w.drewN n := by
  have d0 := G.ce 0 (by omega) (by omega)
  have d6 := G.ce 6 (by omega) (by omega)
  have d8 := G.ce 8 (by omega) (by omega)
  have hl1 := len_map hD
  have hl2 := len_map hL
  obtain ⟨a2, k2, rfl, p2, p2', _, _⟩ := G.o2.form
  obtain ⟨a3, k3, rfl, p3, p3', _, _⟩ := G.o3.form
  obtain ⟨a4, k4, rfl, p4, p4', _, _⟩ := G.o4.form
  obtain ⟨a5, k5, rfl, p5, p5', _, _⟩ := G.o5.form
  rw [hl1] at p3 G
  rw [hl2] at p5 G
  unfold maxLen at p2' p3' p4' p5'
  have N1 : Hid (∀ j, j < Da.length → ∃ x y, Da[j]? = some x ∧ Db[j]? = some y ∧ x.D = y.D ∧ x ∈ Da ∧ y ∈ Db) := fun j hj => by
    have h1 := List.getElem?_eq_getElem hj
    have h2 := List.getElem?_eq_getElem (l := Db) (i := j) (by omega)
    exact ⟨_, _, h1, h2, map_at hD h1 h2, List.mem_of_getElem? h1, List.mem_of_getElem? h2⟩
  have N2 : Hid (∀ j, j < La.length → ∃ x y, La[j]? = some x ∧ Lb[j]? = some y ∧ x.D = y.D ∧ x ∈ La ∧ y ∈ Lb) := fun j hj => by
    have h1 := List.getElem?_eq_getElem hj
    have h2 := List.getElem?_eq_getElem (l := Lb) (i := j) (by omega)
    exact ⟨_, _, h1, h2, map_at hL h1 h2, List.mem_of_getElem? h1, List.mem_of_getElem? h2⟩
  have HG := hide G
  have d2 := G.c2
  have d4 := G.c4
  clear G hD hL hl1 hl2
  generalize Da.length = n at *
  generalize La.length = m at *
  go_enter Try.func18, Try.ntmps18
  go_wp2_with fail
  go_loopw [3] (fun i wr => i = .int .i64 0 ∧ wr = w) (fun _ _ => 0)
  case atStart => exact ⟨rfl, rfl⟩
  case round =>
    obtain ⟨rfl, e1⟩ := hrel
    subst e1
    go_wp2_with fail
    go_loopw [4] (fun i ws => i = .int .i64 0 ∧ ws = wr) (fun _ _ => 0)
    case atStart => exact ⟨rfl, rfl⟩
    case round =>
      obtain ⟨rfl, e1⟩ := hrel
      subst e1
      go_wp2_with fail
      go_loopw [5] (fun i ws => i = .int .i64 0 ∧ ws = wr) (fun _ _ => 0)
      case atStart => exact ⟨rfl, rfl⟩
      case round =>
        obtain ⟨rfl, e1⟩ := hrel
        subst e1
        obtain ⟨w0, hw0⟩ : ∃ w0, w0 = wr := ⟨_, rfl⟩
        subst hw0
        go_wp2_with fail
        go_loopw [6] (fun i ws => ∃ j t : Nat, i = .int .i64 (j : Int) ∧ j ≤ n ∧ ws = w0.drewN t) (fun i _ => n - (intOf i).toNat)
        case atStart => exact ⟨0, 0, rfl, Nat.zero_le _, rfl⟩
        case round =>
          obtain ⟨j, t, rfl, hj, hws⟩ := hrel
          have HW := hide hws
          have G2 := hide (HG.out.bel (show Below w0.heap.size w0 wr by rw [hws]; exact belN (Below.refl _ _) t))
          clear d2 d4
          have d2 := G2.out.c2
          have d3 := G2.out.c3
          have d4 := G2.out.c4
          clear hws
          by_cases hlt : j < n
          · obtain ⟨x, y, hx, hy, hxy, mx, my⟩ := N1.out j hlt
            obtain ⟨g2, rfl, q2⟩ := G2.out.o2.row kzD hx
            obtain ⟨g3, rfl, q3⟩ := G2.out.o3.row kzD hy
            have sx := (G2.out.m2 x mx).sl' kD
            have sy := (G2.out.m3 y my).sl' kD
            rw [← hxy] at q3 sy
            have HH : Hid (∀ k, Calls Try.prog 50 #[.slice x.a x.D.length x.c, .slice y.a x.D.length y.c] (wr.drewN k) fun e w' => e = .returned (.bool true) ∧ ∃ n, w' = (wr.drewN k).drewN n) := fun k => by
              have := samevecB x.D x.D x.a y.a _ _ x.c y.c (wr.drewN k) (sx.drewN k) (sy.drewN k)
              simpa using this
            clear sx sy hx hy hxy HG G2 N1 N2 d4 mx my
            generalize x.D.length = lx at *
            generalize x.a = xa at *
            generalize y.a = ya at *
            generalize x.c = xc at *
            generalize y.c = yc at *
            go_wp2_with fail
            go_quiet ((go_at_call 50; exact Calls.quiet_of (HH.out _)))
            go_wp2
            go_round
            case rel => exact ⟨j + 1, t + nq, by go_num, by omega, by rw [HW.out, World.drewN_drewN]⟩
            case measure => simp [intOf]; omega
          · obtain rfl : j = n := by omega
            have d6' := (G2.out.ce 6 (by omega) (by omega))
            clear N1 d3
            obtain ⟨w1, hw1⟩ : ∃ w1, w1 = wr := ⟨_, rfl⟩
            subst hw1
            go_wp2_with fail
            go_loopw [7] (fun i ws => ∃ j t : Nat, i = .int .i64 (j : Int) ∧ j ≤ m ∧ ws = w1.drewN t) (fun i _ => m - (intOf i).toNat)
            case atStart => exact ⟨0, 0, rfl, Nat.zero_le _, rfl⟩
            case round =>
              obtain ⟨i, s, rfl, hi, hws⟩ := hrel
              have HW2 := hide hws
              have G3 := hide (G2.out.bel (show Below w1.heap.size w1 wr by rw [hws]; exact belN (Below.refl _ _) s))
              clear d2 d4
              have d4 := G3.out.c4
              have d5 := G3.out.c5
              clear hws
              by_cases hlt : i < m
              · obtain ⟨x, y, hx, hy, hxy, mx, my⟩ := N2.out i hlt
                obtain ⟨g4, rfl, q2⟩ := G3.out.o4.row kzE hx
                obtain ⟨g5, rfl, q3⟩ := G3.out.o5.row kzE hy
                have sx := (G3.out.m4 x mx).sl' kE
                have sy := (G3.out.m5 y my).sl' kE
                rw [← hxy] at q3 sy
                have HH : Hid (∀ k, Calls Try.prog 51 #[.slice x.a x.D.length x.c, .slice y.a x.D.length y.c] (wr.drewN k) fun e w' => e = .returned (.bool true) ∧ ∃ n, w' = (wr.drewN k).drewN n) := fun k => by
                  have := sameentsB x.D x.D x.a y.a _ _ x.c y.c (wr.drewN k) (sx.drewN k) (sy.drewN k)
                  simpa using this
                clear sx sy hx hy hxy HG G2 G3 N2 mx my
                generalize x.D.length = lx at *
                generalize x.a = xa at *
                generalize y.a = ya at *
                generalize x.c = xc at *
                generalize y.c = yc at *
                go_wp2_with fail
                go_quiet ((go_at_call 51; exact Calls.quiet_of (HH.out _)))
                go_wp2
                go_round
                case rel => exact ⟨i + 1, s + nq, by go_num, by omega, by rw [HW2.out, World.drewN_drewN]⟩
                case measure => simp [intOf]; omega
              · obtain rfl : i = m := by omega
                clear HG G2 G3 N2
                go_wp2
                go_ret
                exact ⟨rfl, t + s, by rw [HW2.out, HW.out, World.drewN_drewN]⟩

end Go.Proofs.Ytomiifnhcojilaa
