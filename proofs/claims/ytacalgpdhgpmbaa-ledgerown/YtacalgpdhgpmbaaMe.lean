import Derived.Test.YtacalgpdhgpmbaaGLo
import Derived.Laws.AppendOwnNone
namespace Go.Proofs.Ytacalgpdhgpmbaa
open Go.RowKit
open Classical
set_option linter.unusedVariables false

/-- 'append' of cells that a slice holds, nil too. -/
theorem app_slC (w : World) {ops : Array Oper} {rest : List Oper} {o : Oper} {a : Act} {Q : Exit → Act → World → Prop} (hgd : o.guard = none) (s x : Operand)
    (ho : o.op = .call { callee := .builtin .append, args := #[s, x], argTypes := #[33, 33] }) (B : Nat) (l : List Cl) (v : Value) (hs : a.eval s = v)
    (ad : Option Addr) (c : Nat) (news : List Cl) (hx : a.eval x = .slice ad news.length c) (hsl : SlC w (.slice ad news.length c) news ad c) (hown : OwnC B w v l) (hB : B ≤ w.heap.size) (hb : (l.length + news.length) * 24 ≤ 140737488355328)
    (h : ∀ v' w', OwnC B w' v' (l ++ news) → w.grownBy w' v.ownBlock → wpList Try.prog ops Q rest (a.put o.dst v') w') : wpList Try.prog ops Q (o :: rest) a w := by
  cases ad with
  | none =>
    obtain ⟨rfl, rfl⟩ := hsl.nil rfl
    obtain ⟨i0, hi, hz0, hz1, hz2⟩ := info_parts info_cell
    refine wpList_append_own_none hgd s x 33 ho B 38 i0 2 Try.underlying33 hi v l.length (ccs l) hs hown hx ?_
    exact h v w (by rw [List.append_nil]; exact hown) (World.grownBy.refl _ _)
  | some y =>
    refine app_cells w hgd s x ho B l v hs y news.length c hx news rfl hown (fun j u hu => ?_) hB hb h
    rcases hsl.at_ y rfl with ⟨e, _⟩ | ⟨q, p, rfl, _, hlie⟩
    · subst e
      simp [ccs] at hu
    · rw [Addr.add_lit]
      exact ccs_at news w q p hlie j u hu
set_option maxRecDepth 100000 in
theorem copycells_any (a : Option Addr) (c : Nat) (D : List Cl) (w : World) (h : SlC w (.slice a D.length c) D a c) (hb : D.length * 24 ≤ 140737488355328) :
    Calls Try.prog 24 #[.slice a D.length c] w fun e w' => ∃ v', e = .returned v' ∧ OwnC w.heap.size w' v' D ∧ Below w.heap.size w w' := by
  have H := hide h
  clear h
  go_enter Try.func24, Try.ntmps24
  go_wp2_with (at_builtin; go_must (refine app_slC _ rfl (.tmp 4) (.tmp 5) rfl w.heap.size [] _ rfl a c D rfl H.out (OwnC.nil _ _) (Nat.le_refl _) (by simpa using hb) ?_))
  intro v' w' h1 h3
  have hb : Below w.heap.size w w' := (Below.refl _ _).grown h3 (Nat.le_refl _) (fun k hk => by cases hk)
  go_wp2
  go_ret
  exact ⟨v', rfl, h1, hb⟩
theorem bh_last {L : List Cl} {p : Cl} (h : Ok (L ++ [p])) : bh (L ++ [p]) = p.1 + 1 := by
  have hL : Ok L := ⟨(List.pairwise_append.1 h.up).1, fun q hq => h.may q (by simp [hq])⟩
  have := ((ok_snoc hL p).1 h).2.2
  rw [bh_snoc]
  omega
set_option maxRecDepth 100000 in
set_option maxHeartbeats 1000000 in
theorem reffrom_any (D : List Cl) (a : Option Addr) (c : Nat) (w : World) (h : SlC w (.slice a D.length c) D a c) (hw : ∀ p ∈ D, p.2.size ≤ maxLen) :
    Calls Try.prog 22 #[.slice a D.length c] w fun e w' => (Ok D ∧ e = .returned (.int .i64 0) ∨ ¬ Ok D ∧ e = .returned (.int .i64 43)) ∧ ∃ n, w' = w.drewN n := by
  have hmx := h.max
  have hcap := h.cap
  unfold maxLen at hmx
  have hh := hide h
  have hwh := hide hw
  clear h hw
  go_enter Try.func22, Try.ntmps22
  go_wp2
  go_loopw [3] (fun i wr => ∃ k n : Nat, i = .int .i64 (k : Int) ∧ k ≤ D.length ∧ Ok (D.take k) ∧ wr = w.drewN n) (fun i _ => D.length - (intOf i).toNat)
  case atStart => exact ⟨0, 0, rfl, Nat.zero_le _, Ok.nil, rfl⟩
  case round =>
    obtain ⟨k, n, rfl, hk, hokk, rfl⟩ := hrel
    by_cases hlt : k < D.length
    · have hg : D[k]? = some D[k] := List.getElem?_eq_getElem hlt
      have hne : D ≠ [] := by rintro rfl; simp at hlt
      have htk : D.take (k + 1) = D.take k ++ [D[k]] := by rw [List.take_add_one, hg]; rfl
      have hsn := ok_snoc hokk D[k]
      rw [← htk] at hsn
      have hwv := hwh.out D[k] (List.getElem_mem hlt)
      obtain ⟨q, o, rfl, hq, hl⟩ := hh.out.place hne
      obtain ⟨e0, e1⟩ := hl k _ hg
      have hcv : (D[k].2.size : Int) ≤ 9223372036854775807 := by unfold maxLen at hwv; omega
      have hlh := hide hl
      clear hl hg htk
      generalize D[k] = p at *
      obtain ⟨s, v⟩ := p
      dsimp only at e0 e1 hwv hcv
      have hsi := hide hsn
      have hokh := hide hokk
      clear hsn hokk
      by_cases h1 : s < 0
      · have t1 : (s < 0) = True := by simp [h1]
        go_wp2
        go_quiet (fail)
        go_wp2
        go_ret
        exact ⟨.inr ⟨fun hok => (by obtain ⟨a1, a2, a3⟩ := hsi.out.1 (hok.take (k + 1)); dsimp only at a1 a2 a3; omega), rfl⟩, n + nq, by simp⟩
      · have t1 : (s < 0) = False := by simp; omega
        by_cases h2 : 1024 ≤ s
        · have t2 : ((1024 : Int) ≤ s) = True := by simp [h2]
          go_wp2
          go_quiet (fail)
          go_wp2
          go_ret
          exact ⟨.inr ⟨fun hok => (by obtain ⟨a1, a2, a3⟩ := hsi.out.1 (hok.take (k + 1)); dsimp only at a1 a2 a3; omega), rfl⟩, n + nq, by simp⟩
        · have t2 : ((1024 : Int) ≤ s) = False := by simp; omega
          by_cases h3 : 64 < v.size
          · have t3 : ((64 : Int) < (v.size : Int)) = True := by simp; omega
            go_wp2
            go_quiet (fail)
            go_wp2
            go_ret
            exact ⟨.inr ⟨fun hok => (by obtain ⟨a1, a2, a3⟩ := hsi.out.1 (hok.take (k + 1)); dsimp only at a1 a2 a3; omega), rfl⟩, n + nq, by simp⟩
          · have t3 : ((64 : Int) < (v.size : Int)) = False := by simp; omega
            cases k with
            | zero =>
              have hOK := hide (hsi.out.2 ⟨⟨by dsimp only; omega, by dsimp only; omega⟩, by dsimp only; omega, by simp [bh]; omega⟩)
              simp only [Nat.zero_mul, Nat.add_zero] at e0 e1
              go_wp2
              go_quiet (fail)
              go_wp2
              go_round
              case rel => exact ⟨1, n + nq, by go_num, by omega, hOK.out, by simp⟩
              case measure => simp [intOf]; omega
            | succ k =>
              have hg0 : D[k]? = some D[k] := List.getElem?_eq_getElem (by omega)
              obtain ⟨e2, e3⟩ := hlh.out k _ hg0
              have htk0 : D.take (k + 1) = D.take k ++ [D[k]] := by rw [List.take_add_one, hg0]; rfl
              have hbl : bh (D.take (k + 1)) = D[k].1 + 1 := by rw [htk0]; exact bh_last (by rw [← htk0]; exact hokh.out)
              have hblh := hide hbl
              clear hbl htk0 hg0 e3
              generalize D[k] = p0 at *
              obtain ⟨s0, v0⟩ := p0
              dsimp only at e2
              by_cases h4 : s ≤ s0
              · have t4 : (s ≤ s0) = True := by simp [h4]
                go_wp2
                go_quiet (fail)
                go_wp2
                go_ret
                exact ⟨.inr ⟨fun hok => (by obtain ⟨a1, a2, a3⟩ := hsi.out.1 (hok.take (k + 1 + 1)); have := hblh.out; dsimp only at a1 a2 a3 this; omega), rfl⟩, n + nq, by simp⟩
              · have t4 : (s ≤ s0) = False := by simp; omega
                have hOK := hide (hsi.out.2 ⟨⟨by dsimp only; omega, by dsimp only; omega⟩, by dsimp only; omega, by rw [hblh.out]; dsimp only; omega⟩)
                go_wp2
                go_quiet (fail)
                go_wp2
                go_round
                case rel => exact ⟨k + 1 + 1, n + nq, by go_num, by omega, hOK.out, by simp⟩
                case measure => simp [intOf]; omega
    · rw [List.take_of_length_le (by omega)] at hokk
      have hOK := hide hokk
      go_wp2
      go_ret
      exact ⟨.inl ⟨hOK.out, rfl⟩, n, rfl⟩

end Go.Proofs.Ytacalgpdhgpmbaa
