import Derived.Test.YtipkflaamncmbaaGreatSk2
namespace Go.Proofs.YtipkflaamncmbaaGreat
open Go.RowKit Go.Maps
open Classical
set_option linter.unusedVariables false
set_option linter.unusedSimpArgs false

set_option maxRecDepth 100000 in
set_option maxHeartbeats 1000000 in
/-- slices.IndexFunc. -/
theorem Ak.index_any (p : Ak → Bool) (g : Nat) (lb : Array Value) (eg : ∀ args w, (callFunc g args).run Tryz.prog w = .ok (.enter g args) w) (L : List Ak) (a : Option Addr) (n c : Nat) (w : World) (h : SlY yAkV w a n c L)
    (hp : ∀ (W : World) (x : Ak), Below w.heap.size w W → Calls Tryz.prog g (#[x.val] ++ lb) W fun e w' => e = .returned (.bool (p x)) ∧ Below w.heap.size w w') :
    Calls Tryz.prog 90 #[.slice a n c, .func (.func g) #[] lb] w fun e w' => e = .returned (.int .i64 (ix p L)) ∧ Below w.heap.size w w' := by
  have hmx := h.max
  have hcp := h.cap
  have hln := h.len
  unfold maxLen at hmx
  have H := hide h
  have HN := hide hln
  have HP := hide hp
  clear h hln hp
  go_enter Tryz.func90, Tryz.ntmps90
  go_wp2
  go_loopw [8] (fun i wr => ∃ j : Nat, i = .int .i64 (j : Int) ∧ j ≤ n ∧ Hid (∀ k (hk : k < L.length), k < j → p L[k] = false) ∧ Below w.heap.size w wr) (fun i _ => n - (intOf i).toNat)
  case atStart => exact ⟨0, rfl, Nat.zero_le _, fun k hk h => absurd h (Nat.not_lt_zero _), Below.refl _ _⟩
  case round =>
    obtain ⟨j, rfl, hj, hA, hbl⟩ := hrel
    have hsz := hbl.size
    by_cases hlt : j < n
    · have hjl : j < L.length := by rw [HN.out]; exact hlt
      have hg : L[j]? = some L[j] := List.getElem?_eq_getElem hjl
      obtain ⟨q, o, rfl, hq, y0, y1, y2, y3⟩ := (H.out.later hbl).AkV hg
      have hcall := HP.out wr L[j] hbl
      have hH : Hid (p L[j] = true → ix p L = (j : Int)) := fun hp => ix_hit hjl hp (fun k hk => hA.out k (by omega) hk)
      have hS : Hid (p L[j] = false → ∀ k (hk : k < L.length), k < j + 1 → p L[k] = false) := fun hp k hk hkj => by
        by_cases e : k = j
        · subst e; exact hp
        · exact hA.out k hk (by omega)
      clear hA hg
      generalize L[j] = x at *
      unfold Ak.val at hcall
      cases hq2 : p x with
      | true =>
        have hx := hide (hH.out hq2)
        rw [hq2] at hcall
        clear hH hS
        go_wp2_with (go_at_fn g; refine hcall.mono ?_; rintro e w' ⟨rfl, hb'⟩)
        go_ret
        exact ⟨by rw [hx.out]; rfl, hb'⟩
      | false =>
        have hx := hide (hS.out hq2)
        rw [hq2] at hcall
        clear hH hS
        go_wp2_with (go_at_fn g; refine hcall.mono ?_; rintro e w' ⟨rfl, hb'⟩)
        go_round
        case rel => exact ⟨j + 1, by go_num, by omega, hx, hb'⟩
        case measure => simp [intOf]; omega
    · obtain rfl : j = n := by omega
      have hx : Hid (ix p L = -1) := ix_miss (fun x hx => by
        obtain ⟨k, hk, rfl⟩ := List.mem_iff_getElem.1 hx
        exact hA.out k hk (by rw [← HN.out]; exact hk))
      clear hA
      go_wp2
      go_ret
      exact ⟨by rw [hx.out]; rfl, hbl⟩

end Go.Proofs.YtipkflaamncmbaaGreat
