import Derived.Test.YtnodhappbknclaaRq
namespace Go.Proofs.Ytnodhappbknclaa
open Go.RowKit
set_option linter.unusedVariables false

theorem ok_len {m : Int} {q : List Int} (hE : tcErr m q = 0) : 0 < q.length := by
  refine List.length_pos_iff.2 ?_
  rintro rfl
  unfold tcErr at hE
  split at hE
  · cases hE
  · simp [tnErr] at hE
theorem ret_str {x y : ByteArray} (h : x = y) : Ending.returned (.string x) = .returned (.string y) := by rw [h]
theorem QSt.moved {w : World} {b : Nat} {a : Option Addr} {n c p : Nat} {E : Int} (h : QSt w b a n c p E) (p' : Nat) (k : Nat) (hp : p' ≤ n) : QSt ((w.drewN k).setCell ⟨b, 1, none⟩ (.int .i64 (p' : Int))) b a n c p' E := by
  obtain ⟨hlt, c0, c1, c2, f1, f2, hle⟩ := h
  refine ⟨?_, ?_, ?_, ?_, ?_, ?_, hp⟩
  all_goals go_simp

set_option maxRecDepth 100000 in
set_option maxHeartbeats 1000000 in
theorem rq_text (b : Nat) (a : Option Addr) (n c : Nat) (l : List Int) (p : Nat) (m : Int) (q : m ≤ 9223372036854775807) (w : World) (h : QSt w b a n c p 0) (hk : ∀ w', Only b w w' → Hs w' a n c l) (hm : n ≤ 9223372036854775807) :
    Calls Try.prog 30 #[.pointer (some ⟨b, 0, none⟩), .int .i64 m] w fun e w' => e = .returned (.string (strOfNums (ttList m (l.drop p)))) ∧ QSt w' b a n c (p + ttSize m (l.drop p)) (ttErr m (l.drop p)) ∧ Only b w w' := by
  have HI := hide (rq_int b a n c l p m q w h (hk w (Only.refl _ _)) hm)
  have hlen := (hk w (Only.refl _ _)).len
  have hcap := (hk w (Only.refl _ _)).cap
  have hsz := (tcSize_le m (l.drop p) (fun z hz => (hk w (Only.refl _ _)).byte z (List.mem_of_mem_drop hz)))
  have hln : (l.drop p).length = n - p := by rw [List.length_drop, hlen]
  rw [hln] at hsz
  obtain ⟨hs1, hs2⟩ := hsz
  have hvl := tcVal_le m (l.drop p) q
  obtain ⟨hlt, c0, c1, c2, f1, f2, hle⟩ := h
  by_cases hE : tcErr m (l.drop p) = 0
  · have hpos := ok_len hE
    rw [hln] at hpos
    by_cases hS : (l.drop p).length < tcSize m (l.drop p) + tcVal m (l.drop p)
    · have H : ttErr m (l.drop p) = 10 := by unfold ttErr; rw [if_neg (by simp [hE]), if_pos hS]
      obtain ⟨e1, e2⟩ := tt_bad (m := m) (l := l.drop p) (by rw [H]; decide)
      rw [e1, e2, H]
      rw [hE] at HI
      rw [hln] at hS
      clear e1 e2 H hE hk hln hlen
      generalize tcVal m (l.drop p) = V at *
      generalize tcSize m (l.drop p) = S at *
      go_enter Try.func30, Try.ntmps30
      go_wp2_with fail
      refine HI.out.mono ?_
      rintro e w1 ⟨rfl, HQ, bw⟩
      clear HI c0 c1 c2 f1 f2
      have HQS := hide HQ
      obtain ⟨hlt1, c0, c1, c2, f1, f2, hle1⟩ := HQ
      have hx : (n : Int) - ((p + S : Nat) : Int) < (V : Int) := by omega
      go_wp2
      go_quiet (fail)
      go_wp2
      go_ret
      exact ⟨rfl, HQS.out.stepped p 10 nq hle, ((bw.drewN nq).setCell _ _).setCell _ _⟩
    · have H : ttErr m (l.drop p) = 0 := by unfold ttErr; rw [if_neg (by simp [hE]), if_neg hS]
      have H1 : ttList m (l.drop p) = ((l.drop p).drop (tcSize m (l.drop p))).take (tcVal m (l.drop p)) := by unfold ttList; rw [if_pos H]
      have H2 : ttSize m (l.drop p) = tcSize m (l.drop p) + tcVal m (l.drop p) := by unfold ttSize; rw [if_pos H]
      rw [List.drop_drop] at H1
      rw [H, H1, H2]
      rw [hE] at HI
      rw [hln] at hS
      clear H H1 H2 hE hln
      generalize tcVal m (l.drop p) = V at *
      generalize tcSize m (l.drop p) = S at *
      cases a with
      | none => have h3 := hk w (Only.refl _ _); rw [(h3.nil rfl).1] at hlen; simp at hlen; omega
      | some x =>
      obtain ⟨g, o, rfl⟩ := (hk w (Only.refl _ _)).flat (by omega)
      have hle2 : (p + S) + V ≤ n := by omega
      have hlS : ((l.drop (p + S)).take V) = ((l.drop (p + S)).take V) := rfl
      by_cases hSc : p + S < c
      · go_enter Try.func30, Try.ntmps30
        go_wp2_with fail
        refine HI.out.mono ?_
        rintro e w1 ⟨rfl, HQ, bw⟩
        have kc := fun j => conv_hs (w1.drewN j) _ _ _ _ ((((hk w1 bw).rest' (p + S) (by omega)).cut V (by omega)).later (below_drewN (Below.refl _ _) j))
        clear HI c0 c1 c2 f1 f2 hk hlen hlS
        have HQS := hide HQ
        obtain ⟨hlt1, c0, c1, c2, f1, f2, hle1⟩ := HQ
        generalize hL : ((l.drop (p + S)).take V) = L at *
        generalize hps : p + S = ps at *
        have HL := hide (hps ▸ hL : ((l.drop (p + S)).take V) = L)
        have HP := hide hps
        clear hL
        have hx : ¬ ((n : Int) - (ps : Int) < (V : Int)) := by omega
        have hx2 : (ps : Int) + (V : Int) ≤ (n : Int) := by omega
        clear hps
        go_wp2
        go_quiet (fail)
        go_wp2
        go_quiet (fail)
        go_wp2
        go_ret
        have hq := fun k => HQS.out.moved (ps + V) k (by omega)
        rw [Int.natCast_add] at hq
        refine ⟨ret_str (by rw [HL.out]), ?_, (bw.drewN _).setCell _ _⟩
        rw [← Nat.add_assoc, HP.out]
        exact hq _
      · have e1 : n = c := by omega
        have e2 : p + S = c := by omega
        have e3 : V = 0 := by omega
        subst e3
        have hZ : ∀ w', Hs w' (some ⟨g, o, none⟩) 0 0 [] := fun w' => ⟨rfl, Nat.le_refl _, fun x hx i hi => by (simp at hi), fun hx => by (cases hx), fun z hz => by (cases hz)⟩
        have kc := fun w' => conv_hs w' _ _ _ _ (hZ w')
        rw [List.take_zero]
        go_enter Try.func30, Try.ntmps30
        go_wp2_with fail
        refine HI.out.mono ?_
        rintro e w1 ⟨rfl, HQ, bw⟩
        clear HI c0 c1 c2 f1 f2 hk hlen hlS hZ
        rw [e2] at HQ
        have HP := hide e2
        clear e2
        have HQS := hide HQ
        obtain ⟨hlt1, c0, c1, c2, f1, f2, hle1⟩ := HQ
        subst e1
        go_wp2
        go_quiet (fail)
        go_wp2
        go_quiet (fail)
        go_wp2
        go_ret
        have hq := fun k => HQS.out.moved n k (by omega)
        refine ⟨rfl, ?_, (bw.drewN _).setCell _ _⟩
        rw [Nat.add_zero, HP.out]
        exact hq _
  · have H : ttErr m (l.drop p) = tcErr m (l.drop p) := by unfold ttErr; rw [if_pos hE]
    obtain ⟨e1, e2⟩ := tt_bad (m := m) (l := l.drop p) (by rw [H]; exact hE)
    obtain ⟨e3, e4⟩ := tc_bad hE
    rw [e1, e2, H]
    have hb : (tcErr m (l.drop p) != 0) = true := by simp [hE]
    rw [e3, e4] at HI
    clear H e1 e2 e3 e4 hE hs1 hs2 hvl hk
    generalize tcErr m (l.drop p) = E at *
    go_enter Try.func30, Try.ntmps30
    go_wp2_with fail
    refine HI.out.mono ?_
    rintro e w1 ⟨rfl, HQ, bw⟩
    clear HI c0 c1 c2 f1 f2
    have HQS := hide HQ
    obtain ⟨hlt1, c0, c1, c2, f1, f2, hle1⟩ := HQ
    go_wp2
    go_ret
    exact ⟨rfl, HQS.out, bw⟩

end Go.Proofs.Ytnodhappbknclaa
