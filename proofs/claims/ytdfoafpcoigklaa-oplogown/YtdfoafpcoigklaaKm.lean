import Derived.Test.YtdfoafpcoigklaaKl
namespace Go.Proofs.Ytdfoafpcoigklaa
open Go.RowKit Go.Maps
open Classical
set_option linter.unusedVariables false
set_option linter.unusedSimpArgs false

set_option maxRecDepth 100000 in
set_option maxHeartbeats 1000000 in
theorem refchk6_any (L : List En) (a : Option Addr) (n c : Nat) (room : Int) (w : World) (h : SlY yE w a n c L) (hf : ∀ e ∈ L, e.fits) :
    Calls Try.prog 18 #[.slice a n c, .int .i64 room] w fun e w' => e = .returned (.tuple #[.int .i64 (chk L room).1, .int .i64 (chk L room).2]) ∧ Below w.heap.size w w' := by
  have hln := h.len
  have hcp := h.cap
  have hmx := h.max
  unfold maxLen at hmx
  have H := hide h
  have HF := hide hf
  clear h hf
  subst hln
  by_cases h1 : room < 1
  · have hE : Hid (chk L room = (3, 0)) := by show _ = _; simp [chk, h1]
    rw [hE.out]
    have d1 : decide (room < 1) = true := by simpa using h1
    go_enter Try.func18, Try.ntmps18
    go_wp2
    go_ret2
    exact ⟨rfl, Below.refl _ _⟩
  · by_cases h2 : 256 < room
    · have hE : Hid (chk L room = (3, 0)) := by show _ = _; simp [chk, h2]
      rw [hE.out]
      go_enter Try.func18, Try.ntmps18
      go_wp2
      go_ret2
      exact ⟨rfl, Below.refl _ _⟩
    · by_cases h3 : room < (L.length : Int)
      · have hE : Hid (chk L room = (60, room)) := by show _ = _; simp [chk, h1, h2, h3]
        rw [hE.out]
        go_enter Try.func18, Try.ntmps18
        go_wp2
        go_ret2
        exact ⟨rfl, Below.refl _ _⟩
      · have hE : Hid (chk L room = ckA (L.take 0) (L.drop 0)) := by show _ = _; simp [chk, h1, h2, h3]
        generalize chk L room = X at *
        go_enter Try.func18, Try.ntmps18
        go_wp2
        go_loopw [6] (fun i wr => ∃ j : Nat, i = .int .i64 (j : Int) ∧ j ≤ L.length ∧ Hid (X = ckA (L.take j) (L.drop j)) ∧ Below w.heap.size w wr) (fun i _ => L.length - (intOf i).toNat)
        case atStart => exact ⟨0, rfl, Nat.zero_le _, hE, Below.refl _ _⟩
        case round =>
          obtain ⟨j, rfl, hj, hL, hb⟩ := hrel
          by_cases hlt : j < L.length
          · have hg : L[j]? = some L[j] := List.getElem?_eq_getElem hlt
            have hat := ckA_at hg
            have hfj := (HF.out L[j] (List.getElem_mem hlt)).ow
            obtain ⟨q, o, ea, hq, c0, c1, c2, c3, c4⟩ := (H.out.later hb).en hg
            have HTK := hide (((H.out.later hb).take j (by omega)).later ((Below.refl wr.heap.size wr).drew))
            have hsz := hb.size
            generalize L[j] = e at *
            subst ea
            obtain ⟨ec, en, ⟨k, s, v⟩⟩ := e
            dsimp only at *
            have hA := hide hat
            clear hat hg
            have CC := hide (refent6_any (L.take j) (some ⟨q, o, none⟩) j c ec en k s v wr.drew HTK.out hfj)
            generalize er (L.take j) ⟨ec, en, ⟨k, s, v⟩⟩ = x at *
            go_wp2
            go_region_with (go_at_call 54; refine CC.out.mono ?_; rintro e w3 ⟨rfl, b3⟩)
            all_goals
              have b4 : Below w.heap.size w w3 := (hb.trans ((Below.refl wr.heap.size wr).drew.mono hsz)).trans (b3.mono hsz)
              by_cases hx : x = 0
              · subst hx
                have hX : Hid (X = ckA (L.take (j + 1)) (L.drop (j + 1))) := by show _ = _; rw [hL.out, hA.out]; simp
                go_wp2
                go_round
                case rel => exact ⟨j + 1, by go_num, by omega, hX, b4⟩
                case measure => simp [intOf]; omega
              · have hX : Hid (X = (x, (j : Int) + 1)) := by show _ = _; rw [hL.out, hA.out]; simp [hx]
                go_wp2
                go_ret2
                exact ⟨by rw [hX.out]; rfl, b4⟩
          · obtain rfl : j = L.length := by omega
            rw [ckA_end] at hL
            go_wp2
            go_ret2
            exact ⟨by rw [hL.out]; rfl, hb⟩
theorem refcopy6_any (D : List En) (a : Option Addr) (n c : Nat) (w : World) (h : SlY yE w a n c D) (hb : n * 48 ≤ 140737488355328) :
    Calls Try.prog 61 #[.slice a n c] w fun e w' => ∃ v', e = .returned v' ∧ OwnY yE w.heap.size w' v' D ∧ Below w.heap.size w w' := by
  have H := hide h
  clear h
  go_enter Try.func61, Try.ntmps61
  go_wp2_with (at_builtin; go_must (refine appY kE _ rfl (.tmp 4) (.tmp 5) rfl w.heap.size [] _ rfl a n c rfl D H.out (OwnY.nil _ _ _) (Nat.le_refl _) (by unfold maxLen; simp; omega) (by show (0 + n) * 48 ≤ _; omega) ?_))
  intro v' w' h1 h3 _
  have hb : Below w.heap.size w w' := (Below.refl _ _).grown h3 (Nat.le_refl _) (fun k hk => by cases hk)
  go_wp2
  go_ret
  exact ⟨v', rfl, h1, hb⟩

set_option maxRecDepth 100000 in
set_option maxHeartbeats 1000000 in
theorem refcut6_any (L : List En) (a : Option Addr) (n c : Nat) (k : Int) (w : World) (h : SlY yE w a n c L) (hb : n * 48 ≤ 140737488355328) :
    Calls Try.prog 25 #[.slice a n c, .int .i64 k] w fun e w' => ∃ v, e = .returned (.tuple #[v, .int .i64 (ctE L k)]) ∧ OwnY yE w.heap.size w' v (ctL L k) ∧ Below w.heap.size w w' := by
  have hln := h.len
  have hcp := h.cap
  have hmx := h.max
  unfold maxLen at hmx
  by_cases h1 : k < 0
  · have e1 : Hid (ctE L k = 61) := by show _ = _; simp [ctE, h1]
    have e2 : Hid (ctL L k = []) := by show _ = _; simp [ctL, h1]
    rw [e1.out, e2.out]
    have d1 : decide (k < 0) = true := by simpa using h1
    clear h
    go_enter Try.func25, Try.ntmps25
    go_wp2
    go_ret2
    exact ⟨_, rfl, OwnY.nil _ _ _, Below.refl _ _⟩
  · by_cases h2 : (n : Int) < k
    · have e1 : Hid (ctE L k = 61) := by show _ = _; simp [ctE, hln, h2]
      have e2 : Hid (ctL L k = []) := by show _ = _; simp [ctL, hln, h2]
      rw [e1.out, e2.out]
      clear h
      go_enter Try.func25, Try.ntmps25
      go_wp2
      go_ret2
      exact ⟨_, rfl, OwnY.nil _ _ _, Below.refl _ _⟩
    · obtain ⟨m, rfl⟩ : ∃ m : Nat, k = (m : Int) := ⟨k.toNat, by omega⟩
      have hm : m ≤ n := by omega
      have e1 : Hid (ctE L m = 0) := by show _ = _; simp [ctE, hln]; omega
      have e2 : Hid (ctL L m = L.take m) := by show _ = _; simp [ctL, hln]; omega
      rw [e1.out, e2.out]
      have hnil := h.nil
      have CC := hide (refcopy6_any (L.take m) a m c w (h.take m hm) (by omega))
      clear h hln
      cases a with
      | none =>
        obtain ⟨rfl, rfl⟩ := hnil rfl
        obtain rfl : m = 0 := by omega
        clear hnil
        go_enter Try.func25, Try.ntmps25
        go_wp2_with fail
        refine CC.out.mono ?_
        rintro e w2 ⟨v, rfl, o2, b2⟩
        clear CC
        go_wp2
        go_ret2
        exact ⟨_, rfl, o2, b2⟩
      | some x =>
        clear hnil
        go_enter Try.func25, Try.ntmps25
        go_wp2_with fail
        refine CC.out.mono ?_
        rintro e w2 ⟨v, rfl, o2, b2⟩
        clear CC
        go_wp2
        go_ret2
        exact ⟨_, rfl, o2, b2⟩
set_option maxRecDepth 100000 in
set_option maxHeartbeats 1000000 in
theorem reftail6_any (L : List En) (a : Option Addr) (n c : Nat) (k : Int) (hk : (Lit.int .i64 k).wf = true) (w : World) (h : SlY yE w a n c L) (hb : n * 48 ≤ 140737488355328) :
    Calls Try.prog 27 #[.slice a n c, .int .i64 k] w fun e w' => ∃ v, e = .returned (.tuple #[v, .int .i64 (tlE L k)]) ∧ OwnY yE w.heap.size w' v (tlL L k) ∧ Below w.heap.size w w' := by
  have hln := h.len
  have hcp := h.cap
  have hmx := h.max
  unfold maxLen at hmx
  by_cases h1 : k < 1
  · have e1 : Hid (tlE L k = 61) := by show _ = _; simp [tlE, h1]
    have e2 : Hid (tlL L k = []) := by show _ = _; simp [tlL, h1]
    rw [e1.out, e2.out]
    have d1 : decide (k < 1) = true := by simpa using h1
    clear h
    go_enter Try.func27, Try.ntmps27
    go_wp2
    go_ret2
    exact ⟨_, rfl, OwnY.nil _ _ _, Below.refl _ _⟩
  · have hkb := (i64_wf hk).2
    clear hk
    by_cases h2 : (n : Int) + 1 < k
    · have e1 : Hid (tlE L k = 61) := by show _ = _; simp [tlE, hln, h2]
      have e2 : Hid (tlL L k = []) := by show _ = _; simp [tlL, hln, h2]
      rw [e1.out, e2.out]
      clear h
      go_enter Try.func27, Try.ntmps27
      go_wp2
      go_ret2
      exact ⟨_, rfl, OwnY.nil _ _ _, Below.refl _ _⟩
    · obtain ⟨s, rfl⟩ : ∃ s : Nat, k = (s : Int) + 1 := ⟨(k - 1).toNat, by omega⟩
      have hm : s ≤ n := by omega
      clear hkb
      have e1 : Hid (tlE L ((s : Int) + 1) = 0) := by show _ = _; simp [tlE, hln]; omega
      have e2 : Hid (tlL L ((s : Int) + 1) = L.drop s) := by
        show _ = _
        have : ¬ ((s : Int) + 1 < 1 ∨ (L.length : Int) + 1 < (s : Int) + 1) := by omega
        rw [tlL, if_neg this, show ((s : Int) + 1 - 1).toNat = s by omega]
      rw [e1.out, e2.out]
      have hnil := h.nil
      have CC : Hid (∀ (o : Option Addr), SlY yE w o (n - s) (c - s) (L.drop s) → Calls Try.prog 61 #[.slice o (n - s) (c - s)] w fun e w' => ∃ v', e = .returned v' ∧ OwnY yE w.heap.size w' v' (L.drop s) ∧ Below w.heap.size w w') := fun o ho => refcopy6_any (L.drop s) o (n - s) (c - s) w ho (by omega)
      by_cases hsn : s = n
      · have hd : L.drop s = [] := List.drop_of_length_le (by omega)
        have HS : Hid (∀ o, (o = none → c = 0) → SlY yE w o (n - s) (c - s) (L.drop s)) := by
          intro o ho
          rw [hd, hsn, Nat.sub_self]
          exact ⟨rfl, Nat.zero_le _, by unfold maxLen; omega, fun e => ⟨rfl, by rw [ho e]; omega⟩, fun x _ => .inl rfl⟩
        clear h hln hd
        cases a with
        | none =>
          obtain ⟨rfl, rfl⟩ := hnil rfl
          obtain rfl : s = 0 := by omega
          clear hnil
          have C0 := hide (CC.out none (HS.out none (fun _ => rfl)))
          clear CC HS
          go_enter Try.func27, Try.ntmps27
          go_wp2_with fail
          refine C0.out.mono ?_
          rintro e w2 ⟨v, rfl, o2, b2⟩
          clear C0
          go_wp2
          go_ret2
          exact ⟨_, rfl, o2, b2⟩
        | some x =>
          subst hsn
          clear hnil
          by_cases hcs : c = s
          · subst hcs
            have C0 := hide (CC.out (some x) (HS.out (some x) (fun e => by cases e)))
            clear CC HS
            simp only [Nat.sub_self] at C0
            go_enter Try.func27, Try.ntmps27
            go_wp2_with fail
            refine C0.out.mono ?_
            rintro e w2 ⟨v, rfl, o2, b2⟩
            clear C0
            go_wp2
            go_ret2
            exact ⟨_, rfl, o2, b2⟩
          · have hcs2 : s < c := by omega
            have C0 := hide (CC.out (some (x.add (s * 5))) (HS.out (some (x.add (s * 5))) (fun e => by cases e)))
            clear CC HS
            simp only [Nat.sub_self] at C0
            go_enter Try.func27, Try.ntmps27
            go_wp2_with fail
            refine C0.out.mono ?_
            rintro e w2 ⟨v, rfl, o2, b2⟩
            clear C0
            go_wp2
            go_ret2
            exact ⟨_, rfl, o2, b2⟩
      · obtain ⟨q, o, rfl, hq, hl⟩ := h.place (by rintro rfl; simp at hln; omega)
        have hlt : s < n := by omega
        have hS : SlY yE w (some ⟨q, o + s * 5, none⟩) (n - s) (c - s) (L.drop s) := by
          have := SlY.cut (c := c) hq hl hln s n (c - s) hlt (Nat.le_refl _) (by omega) (by unfold maxLen; omega)
          rw [List.take_of_length_le (by omega)] at this
          exact this
        have C0 := hide (CC.out _ hS)
        clear h hS hl hln CC hnil
        go_enter Try.func27, Try.ntmps27
        go_wp2_with fail
        refine C0.out.mono ?_
        rintro e w2 ⟨v, rfl, o2, b2⟩
        clear C0
        go_wp2
        go_ret2
        exact ⟨_, rfl, o2, b2⟩

end Go.Proofs.Ytdfoafpcoigklaa
