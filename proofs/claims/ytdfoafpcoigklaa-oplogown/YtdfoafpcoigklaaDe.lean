import Derived.Test.YtdfoafpcoigklaaDd
namespace Go.Proofs.Ytdfoafpcoigklaa
open Go.RowKit Go.Maps
open Classical
set_option linter.unusedVariables false
set_option linter.unusedSimpArgs false

theorem SlY.rw {w : World} {a : Option Addr} {n c : Nat} {L : List Rw} (h : SlY yR w a n c L) {j : Nat} {x : Rw} (hx : L[j]? = some x) : ∃ q o, a = some ⟨q, o, none⟩ ∧ q < w.heap.size ∧ w.cell? ⟨q, o + j * 7, none⟩ = some (.int .i64 x.c) ∧ w.cell? ⟨q, o + j * 7 + 1, none⟩ = some (.int .i64 x.n) ∧ w.cell? ⟨q, o + j * 7 + 2, none⟩ = some (.int .i64 x.p) ∧ w.cell? ⟨q, o + j * 7 + 3, none⟩ = some (.bool x.d) ∧ w.cell? ⟨q, o + j * 7 + 4, none⟩ = some (.int .i64 x.r.1) ∧ w.cell? ⟨q, o + j * 7 + 5, none⟩ = some (.int .i64 x.r.2.1) ∧ w.cell? ⟨q, o + j * 7 + 6, none⟩ = some (.string x.r.2.2) := by
  obtain ⟨q, o, ea, hq, hl⟩ := h.place (by rintro rfl; simp at hx)
  exact ⟨q, o, ea, hq, hl j x hx 0 _ rfl, hl j x hx 1 _ rfl, hl j x hx 2 _ rfl, hl j x hx 3 _ rfl, hl j x hx 4 _ rfl, hl j x hx 5 _ rfl, hl j x hx 6 _ rfl⟩
set_option maxRecDepth 100000 in
set_option maxHeartbeats 1000000 in
theorem sameents_any (D : List En) (a1 a2 : Option Addr) (c1 c2 : Nat) (w : World) (h1 : SlY yE w a1 D.length c1 D) (h2 : SlY yE w a2 D.length c2 D) :
    Calls Try.prog 23 #[.slice a1 D.length c1, .slice a2 D.length c2] w fun e w' => e = .returned (.bool true) ∧ ∃ n, w' = w.drewN n := by
  have m1 := h1.max
  have m2 := h2.max
  have p1 := h1.cap
  have p2 := h2.cap
  unfold maxLen at m1 m2
  have H1 := hide h1
  have H2 := hide h2
  clear h1 h2
  go_enter Try.func23, Try.ntmps23
  go_wp2
  go_loopw [5] (fun i wr => ∃ k n : Nat, i = .int .i64 (k : Int) ∧ k ≤ D.length ∧ wr = w.drewN n) (fun i _ => D.length - (intOf i).toNat)
  case atStart => exact ⟨0, 0, rfl, Nat.zero_le _, rfl⟩
  case round =>
    obtain ⟨k, n, rfl, hk, rfl⟩ := hrel
    by_cases hlt : k < D.length
    · have hd : D[k]? = some D[k] := List.getElem?_eq_getElem hlt
      obtain ⟨q1, o1, rfl, _, e0, e1, e2, e3, e4⟩ := H1.out.en hd
      obtain ⟨q2, o2, rfl, _, f0, f1, f2, f3, f4⟩ := H2.out.en hd
      generalize D[k] = d at *
      obtain ⟨C, N, ⟨ok, os, ov⟩⟩ := d
      dsimp only at e0 e1 e2 e3 e4 f0 f1 f2 f3 f4
      clear hd
      go_wp2
      go_quiet (fail)
      go_wp2
      go_round
      case rel => exact ⟨k + 1, n + nq, by go_num, by omega, by simp⟩
      case measure => simp [intOf]; omega
    · obtain rfl : k = D.length := by omega
      go_wp2
      go_ret
      exact ⟨rfl, n, rfl⟩
set_option maxRecDepth 100000 in
set_option maxHeartbeats 2000000 in
theorem intactE_any (b B : Nat) (va vb : Value) (La Lb : List (SV En)) (w : World) (G : GY yE zE 4 (fun _ => .slice none 0 0) w b B va vb La Lb) (hD : La.map (·.D) = Lb.map (·.D)) :
    Calls Try.prog 19 #[.pointer (some ⟨b, 0, none⟩)] w fun e w' => e = .returned (.bool true) ∧ ∃ n, w' = w.drewN n := by
  have d0 := G.ce 0 (by omega) (by omega) (by omega)
  have d2 := G.ce 2 (by omega) (by omega) (by omega)
  have d6 := G.ce 6 (by omega) (by omega) (by omega)
  have d8 := G.ce 8 (by omega) (by omega) (by omega)
  have d4 := G.ca
  have d5 := G.cb
  have hl : Lb.length = La.length := by
    have := congrArg List.length hD
    simpa using this.symm
  obtain ⟨aa, ea, rfl, m2, m2', pn, p2⟩ := G.oa.form
  obtain ⟨ab, eb, rfl, m3, m3', qn, p3⟩ := G.ob.form
  rw [hl] at d5 m3
  unfold maxLen at m2' m3'
  have HG := hide G
  have HD := hide hD
  have HL := hide hl
  have P2 := hide p2
  have P3 := hide p3
  have N2 := hide pn
  have N3 := hide qn
  clear G hD hl p2 p3 pn qn
  generalize hn : La.length = n at *
  have HN := hide hn
  clear hn
  go_enter Try.func19, Try.ntmps19
  go_wp2_with fail
  go_loopw [3] (fun i wr => i = .int .i64 0 ∧ wr = w) (fun _ _ => 0)
  case atStart => exact ⟨rfl, rfl⟩
  case round =>
    obtain ⟨rfl, e1⟩ := hrel
    subst e1
    go_wp2_with fail
    go_loopw [4] (fun i ws => i = .int .i64 0 ∧ ws = wr) (fun _ _ => 0)
    case atStart => exact ⟨rfl, rfl⟩
    case round =>
      obtain ⟨rfl, e1⟩ := hrel
      subst e1
      go_wp2_with fail
      go_loopw [5] (fun i ws => i = .int .i64 0 ∧ ws = wr) (fun _ _ => 0)
      case atStart => exact ⟨rfl, rfl⟩
      case round =>
        obtain ⟨rfl, e1⟩ := hrel
        subst e1
        go_wp2_with fail
        go_loopw [6] (fun i ws => i = .int .i64 0 ∧ ws = wr) (fun _ _ => 0)
        case atStart => exact ⟨rfl, rfl⟩
        case round =>
          obtain ⟨rfl, e1⟩ := hrel
          subst e1
          obtain ⟨w0, hw0⟩ : ∃ w0, w0 = wr := ⟨_, rfl⟩
          subst hw0
          go_wp2_with fail
          go_loopw [7] (fun i ws => ∃ j m : Nat, i = .int .i64 (j : Int) ∧ j ≤ n ∧ ws = w0.drewN m) (fun i _ => n - (intOf i).toNat)
          case atStart => exact ⟨0, 0, rfl, Nat.zero_le _, rfl⟩
          case round =>
            obtain ⟨j, m, rfl, hj, hws⟩ := hrel
            have HW := hide hws
            have G2 := hide (HG.out.bel (show Below w0.heap.size w0 wr by rw [hws]; exact belN (Below.refl _ _) m))
            have d4 := G2.out.ca
            have d5 := G2.out.cb
            rw [HL.out] at d5
            clear hws
            by_cases hlt : j < n
            · obtain ⟨x, hx⟩ : ∃ x, La[j]? = some x := ⟨_, List.getElem?_eq_getElem (by rw [HN.out]; exact hlt)⟩
              obtain ⟨y, hy⟩ : ∃ y, Lb[j]? = some y := ⟨_, List.getElem?_eq_getElem (by rw [HL.out]; exact hlt)⟩
              have hxy : x.D = y.D := by
                have h1 := congrArg (fun l => l[j]?) HD.out
                simp only [List.getElem?_map, hx, hy, Option.map_some] at h1
                exact Option.some.inj h1
              cases aa with
              | none => have := (N2.out rfl).1; rw [this] at hx; simp at hx
              | some za =>
                cases ab with
                | none => have := (N3.out rfl).1; rw [this] at hy; simp at hy
                | some zb =>
                  obtain ⟨g2, rfl, _, hg2⟩ := P2.out za rfl
                  obtain ⟨g3, rfl, _, hg3⟩ := P3.out zb rfl
                  have q2 := G2.out.oa.cell kzE j x hx 0 _ rfl
                  have q3 := G2.out.ob.cell kzE j y hy 0 _ rfl
                  have sx := (G2.out.da x (List.mem_of_getElem? hx)).sl' kE
                  have sy := (G2.out.db y (List.mem_of_getElem? hy)).sl' kE
                  have q2 : wr.cell? ⟨g2, j, none⟩ = some (.slice x.a x.D.length x.c) := by
                    have := q2
                    simp only [zE, yS, Nat.mul_one, Nat.add_zero] at this
                    exact this
                  have q3 : wr.cell? ⟨g3, j, none⟩ = some (.slice y.a y.D.length y.c) := by
                    have := q3
                    simp only [zE, yS, Nat.mul_one, Nat.add_zero] at this
                    exact this
                  rw [← hxy] at q3 sy
                  have HH := fun k => hide (sameents_any x.D x.a y.a x.c y.c (wr.drewN k) (sx.drewN k) (sy.drewN k))
                  clear sx sy hx hy hxy HG G2 P2 P3 HD HL HN N2 N3
                  generalize x.D.length = lx at *
                  generalize x.a = xa at *
                  generalize y.a = ya at *
                  generalize x.c = xc at *
                  generalize y.c = yc at *
                  go_wp2_with fail
                  go_quiet ((go_at_call 23; exact Calls.quiet_of (HH _).out))
                  go_wp2
                  go_round
                  case rel => exact ⟨j + 1, m + nq, by go_num, by omega, by rw [HW.out, World.drewN_drewN]⟩
                  case measure => simp [intOf]; omega
            · obtain rfl : j = n := by omega
              clear HG G2 P2 P3 HD HL HN N2 N3
              go_wp2
              go_ret
              exact ⟨rfl, m, HW.out⟩

end Go.Proofs.Ytdfoafpcoigklaa
