import Derived.Test.YthhghenaflnlfaaRe
import Derived.Test.YthhghenaflnlfaaRu
import Derived.Test.YthhghenaflnlfaaPr
namespace Go.Proofs.Ythhghenaflnlfaa
open Go.RowKit
set_option linter.unusedVariables false

theorem WSt.later {w w' : World} {b : Nat} {l : List Int} {E : Int} (h : WSt w b l E) (hb : Below w.heap.size w w') : WSt w' b l E := by
  rcases h with ⟨e, h⟩ | ⟨e, h⟩
  · exact .inl ⟨e, h.later hb⟩
  · exact .inr ⟨e, h.later hb⟩

theorem RSt.later2 {w w' : World} {b : Nat} {a : Option Addr} {n c : Nat} {l : List Int} {p : Nat} {e : Int} (h : RSt w b a n c l p e) (hb : Below w.heap.size w w') : RSt w' b a n c l p e :=
  ⟨Nat.lt_of_lt_of_le h.lt hb.size, cell_later hb h.c0, cell_later hb h.c1, cell_later hb h.c2, cell_later hb h.c3, (hb.frozen (p := ⟨b, 2, none⟩) h.lt).trans h.f2, (hb.frozen (p := ⟨b, 3, none⟩) h.lt).trans h.f3, h.hs.later hb, h.cmax, h.ne, h.le⟩
theorem Puts.later {w w' : World} {a : Option Addr} {P : List Pt} (h : Puts w a P) (hb : Below w.heap.size w w') : Puts w' a P := by
  intro i hi
  obtain ⟨hf, b, o, ha, e0, e1, e2, e3, e4⟩ := h i hi
  exact ⟨hf, b, o, ha, cell_later hb e0, cell_later hb e1, cell_later hb e2, cell_later hb e3, cell_later hb e4⟩

set_option maxRecDepth 100000 in
set_option maxHeartbeats 4000000 in
theorem back_walk (a0 : Option Addr) (len0 cap0 : Nat) (P : List Pt) (w : World) (hP : Puts w a0 P) (hlen : P.length = len0) (hcap : len0 ≤ cap0) (hmx : len0 ≤ 9223372036854775807) (hLm : (allBytes P).length ≤ 140737488355328) (hsz : ∀ k (h : k < P.length), (allBytes (P.take k)).length + 9 + P[k].s.size ≤ 140737488355328) :
    Calls Try.prog 4 #[.slice a0 len0 cap0] w fun e w' => e = .returned (.bool true) ∧ Below w.heap.size w w' := by
  have HLN := hide hlen
  clear hlen
  go_enter Try.func4, Try.ntmps4
  go_wp2_with fail
  refine (alive_any _).mono ?_
  rintro e w1 ⟨rfl, b1⟩
  go_wp2_with fail
  have T0 : WSt (w1.alloc (Obj.cells #[Value.pointer none, Value.int IntKind.i64 0, Value.int IntKind.i64 0] 26)) w1.heap.size (allBytes (P.take 0)) (firstErr (P.take 0)) :=
    .inl ⟨rfl, .inl ⟨rfl, ⟨by simp, by simp, by simp, by simp, by simp, by simp, by simp⟩⟩⟩
  have B0 : Below w.heap.size w (w1.alloc (Obj.cells #[Value.pointer none, Value.int IntKind.i64 0, Value.int IntKind.i64 0] 26)) := b1.alloc b1.size _
  have hw1 := b1.size
  generalize w1.alloc (Obj.cells #[Value.pointer none, Value.int IntKind.i64 0, Value.int IntKind.i64 0] 26) = W0 at *
  generalize w1.heap.size = bq at *
  clear b1
  go_loopw [4] (fun i wr => ∃ k : Nat, i = .int .i64 k ∧ k ≤ len0 ∧ WSt wr bq (allBytes (P.take k)) (firstErr (P.take k)) ∧ Below w.heap.size w wr) (fun i _ => len0 - (intOf i).toNat)
  case atStart => exact ⟨0, rfl, Nat.zero_le _, T0, B0⟩
  case round =>
    obtain ⟨k, rfl, hk, T, B⟩ := hrel
    clear T0 B0
    by_cases hlt : k < len0
    · have hkP : k < P.length := by rw [HLN.out]; exact hlt
      obtain ⟨hf, gb, go, ha, e0, e1, e2, e3, e4⟩ := hP k hkP
      subst ha
      have e0 := cell_later B e0
      have e1 := cell_later B e1
      have e2 := cell_later B e2
      have e3 := cell_later B e3
      have e4 := cell_later B e4
      have HL := hide (lay_step w.heap.size bq (P.take k) P[k] wr hw1 T hf (hsz k hkP))
      rw [← take_snoc P k hkP] at HL
      unfold Pt.val putV at HL
      generalize P[k].K = K at *
      generalize P[k].V = V at *
      generalize P[k].N = N at *
      generalize P[k].m = m at *
      generalize P[k].s = s at *
      clear T hf hP
      go_wp2_with fail
      refine HL.out.mono ?_
      rintro e w2 ⟨rfl, T2, B2⟩
      clear HL
      go_wp2
      exact ⟨⟨k + 1, by go_num, by omega, T2, B.trans B2⟩, by simp [intOf]; omega⟩
    · obtain rfl : k = len0 := by omega
      rw [List.take_of_length_le (by rw [HLN.out]; exact Nat.le_refl _)] at T
      clear hlt
      rcases T with ⟨hE, T⟩ | ⟨hE, T⟩
      · have hall := (firstErr_zero P).1 hE
        have hkb : ∀ z ∈ allBytes P, 0 ≤ z ∧ z < 256 := allBytes_byte P (fun p hp => by
          obtain ⟨j, hj, rfl⟩ := List.getElem_of_mem hp
          exact ⟨(hP j hj).1, by have := hsz j hj; omega⟩)
        go_wp2_with fail
        refine (bytes_any bq (allBytes P) wr T hLm).mono ?_
        rintro e w3 ⟨v3, rfl, o3, b3⟩
        obtain ⟨g3, n3, c3, hv3, s3, _⟩ := o3.hs hkb
        subst hv3
        have hn3 := s3.len
        subst hn3
        have B3 := B.trans (b3.mono B.size)
        clear T o3 b3 B
        go_wp2_with (go_at_call 6; go_in)
        refine (newreader_any g3 (allBytes P).length c3 (allBytes P) w3 s3 hLm).mono ?_
        rintro e w4 ⟨r, a4, c4, rfl, R4, hr4, b4⟩
        have B4 := B3.trans (b4.mono B3.size)
        have hr : w.heap.size ≤ r := Nat.le_trans B3.size hr4
        clear b4 s3
        go_wp2_with fail
        generalize hnL : (allBytes P).length = n at *
        have HNL := hide hnL
        go_loopw [8] (fun i wx => ∃ j : Nat, i = .int .i64 j ∧ j ≤ k ∧ RSt wx r a4 n c4 (allBytes P) (allBytes (P.take j)).length 0 ∧ Below w.heap.size w wx) (fun i _ => k - (intOf i).toNat)
        case atStart => exact ⟨0, rfl, Nat.zero_le _, R4, B4⟩
        case round =>
          obtain ⟨j, rfl, hj, R, B⟩ := hrel
          clear R4 B4
          by_cases hlt : j < k
          · have hjP : j < P.length := by rw [HLN.out]; exact hlt
            obtain ⟨hf, gb, go, ha, e0, e1, e2, e3, e4⟩ := hP j hjP
            subst ha
            have e0 := cell_later B e0
            have e1 := cell_later B e1
            have e2 := cell_later B e2
            have e3 := cell_later B e3
            have e4 := cell_later B e4
            have hrl := R.lt
            have HD := hide (allBytes_drop P j hjP)
            have HT := hide (allBytes_take P j hjP)
            have HY := hide (show P[j].bytes = ptBytes P[j].K P[j].V P[j].N P[j].s from rfl)
            have HX := hide ((show ptErr P[j].K P[j].N P[j].m P[j].s = P[j].err from rfl).trans (hall P[j] (List.getElem_mem hjP)))
            obtain ⟨hf1, hf2, hf3, hf4, hf5, hf6⟩ := hf
            generalize P[j].K = K at *
            generalize P[j].V = V at *
            generalize P[j].N = N at *
            generalize P[j].m = m at *
            generalize P[j].s = s at *
            have hnr : wr.heap.size ≠ r := by omega
            clear hP hall hsz
            have hBz : w.heap.size ≤ wr.heap.size := B.size
            by_cases hK0 : K = 0
            · subst hK0
              obtain ⟨v, rfl⟩ := Int.eq_ofNat_of_zero_le hf1
              obtain ⟨q1, q2, q3⟩ := tn_read v (by omega) (allBytes (P.drop (j + 1)))
              have HC := fun w' hb => hide (ru_number r a4 n c4 (allBytes P) (allBytes (P.take j)).length 0 w' (R.later2 hb))
              rw [HD.out, HY.out] at HC
              have eB : ptBytes 0 v N s = M.form v := rfl
              rw [eB] at HC HY
              rw [q1, q2, q3, sel_ok, sel_ok, selE_ok, ← HY.out, ← HT.out] at HC
              clear q1 q2 q3 eB HD HX HY HT R
              go_wp2_with fail
              have hbW : Below wr.heap.size wr (wr.alloc (Obj.cells #[.int .i64 0, .int .u64 v, .int .i64 N, .int .i64 m, .string s] 35)) := (Below.refl _ _).alloc (Nat.le_refl _) _
              have x1 : (wr.alloc (Obj.cells #[.int .i64 0, .int .u64 v, .int .i64 N, .int .i64 m, .string s] 35)).cell? ⟨wr.heap.size, 1, none⟩ = some (.int .u64 v) := by simp
              generalize wr.alloc (Obj.cells #[.int .i64 0, .int .u64 v, .int .i64 N, .int .i64 m, .string s] 35) = W at *
              generalize wr.heap.size = z at *
              go_region_with (go_at_call 13; refine (HC _ (hbW.drew)).out.mono ?_; rintro e w3 ⟨rfl, R3, o3⟩; have y1 := (o3.cell (p := ⟨z, 1, none⟩) hnr).trans x1)
              all_goals
                have B3 : Below w.heap.size w w3 := (B.trans (hbW.drew.mono hBz)).trans (o3.below hr)
                clear o3
                go_wp2
                exact ⟨⟨j + 1, by go_num, by omega, R3, B3⟩, by simp [intOf]; omega⟩
            · have n0 : (K == 0) = false := by simp [hK0]
              by_cases hK1 : K = 1
              · subst hK1
                have hN0 : 0 ≤ N := by
                  refine Int.not_lt.1 fun h => ?_
                  have := HX.out
                  unfold ptErr at this
                  rw [if_neg (by decide), if_pos rfl, if_pos h] at this
                  cases this
                obtain ⟨v, rfl⟩ := Int.eq_ofNat_of_zero_le hN0
                obtain ⟨q1, q2, q3⟩ := tc_read v v (by omega) (Int.le_refl _) (allBytes (P.drop (j + 1)))
                have HC := fun w' hb => hide (ru_int r a4 n c4 (allBytes P) (allBytes (P.take j)).length 0 v (by omega) w' (R.later2 hb))
                rw [HD.out, HY.out] at HC
                have eB : ptBytes 1 V v s = M.form v := rfl
                rw [eB] at HC HY
                rw [q1, q2, q3, sel_ok, sel_ok, selE_ok, ← HY.out, ← HT.out] at HC
                clear q1 q2 q3 eB HD HX HY HT R
                go_wp2_with fail
                have hbW : Below wr.heap.size wr (wr.alloc (Obj.cells #[.int .i64 1, .int .u64 V, .int .i64 v, .int .i64 m, .string s] 35)) := (Below.refl _ _).alloc (Nat.le_refl _) _
                have x2 : (wr.alloc (Obj.cells #[.int .i64 1, .int .u64 V, .int .i64 v, .int .i64 m, .string s] 35)).cell? ⟨wr.heap.size, 2, none⟩ = some (.int .i64 v) := by simp
                generalize wr.alloc (Obj.cells #[.int .i64 1, .int .u64 V, .int .i64 v, .int .i64 m, .string s] 35) = W at *
                generalize wr.heap.size = z at *
                go_region_with (go_at_call 14; refine (HC _ (hbW.drew)).out.mono ?_; rintro e w3 ⟨rfl, R3, o3⟩; have y2 := (o3.cell (p := ⟨z, 2, none⟩) hnr).trans x2)
                all_goals
                  have B3 : Below w.heap.size w w3 := (B.trans (hbW.drew.mono hBz)).trans (o3.below hr)
                  clear o3
                  go_wp2
                  exact ⟨⟨j + 1, by go_num, by omega, R3, B3⟩, by simp [intOf]; omega⟩
              · have n1 : (K == 1) = false := by simp [hK1]
                by_cases hK2 : K = 2
                · subst hK2
                  have hh : 0 ≤ N ∧ N ≤ m := by
                    have := HX.out
                    unfold ptErr at this
                    rw [if_neg (by decide), if_neg (by decide), if_pos rfl] at this
                    split at this
                    · cases this
                    · split at this
                      · cases this
                      · omega
                  obtain ⟨hN0, hNm⟩ := hh
                  obtain ⟨v, rfl⟩ := Int.eq_ofNat_of_zero_le hN0
                  obtain ⟨q1, q2, q3⟩ := tc_read v m (by omega) hNm (allBytes (P.drop (j + 1)))
                  have HC := fun w' hb => hide (ru_count r a4 n c4 (allBytes P) (allBytes (P.take j)).length 0 m hf6 w' (R.later2 hb))
                  rw [HD.out, HY.out] at HC
                  have eB : ptBytes 2 V v s = M.form v := rfl
                  rw [eB] at HC HY
                  rw [q1, q2, q3, sel_ok, sel_ok, selE_ok, ← HY.out, ← HT.out] at HC
                  clear q1 q2 q3 eB HD HX HY HT R
                  go_wp2_with fail
                  have hbW : Below wr.heap.size wr (wr.alloc (Obj.cells #[.int .i64 2, .int .u64 V, .int .i64 v, .int .i64 m, .string s] 35)) := (Below.refl _ _).alloc (Nat.le_refl _) _
                  have x2 : (wr.alloc (Obj.cells #[.int .i64 2, .int .u64 V, .int .i64 v, .int .i64 m, .string s] 35)).cell? ⟨wr.heap.size, 2, none⟩ = some (.int .i64 v) := by simp
                  have x3 : (wr.alloc (Obj.cells #[.int .i64 2, .int .u64 V, .int .i64 v, .int .i64 m, .string s] 35)).cell? ⟨wr.heap.size, 3, none⟩ = some (.int .i64 m) := by simp
                  generalize wr.alloc (Obj.cells #[.int .i64 2, .int .u64 V, .int .i64 v, .int .i64 m, .string s] 35) = W at *
                  generalize wr.heap.size = z at *
                  go_region_with (go_at_call 15; refine (HC _ (hbW.drew)).out.mono ?_; rintro e w3 ⟨rfl, R3, o3⟩; have y2 := (o3.cell (p := ⟨z, 2, none⟩) hnr).trans x2; have y3 := (o3.cell (p := ⟨z, 3, none⟩) hnr).trans x3)
                  all_goals
                    have B3 : Below w.heap.size w w3 := (B.trans (hbW.drew.mono hBz)).trans (o3.below hr)
                    clear o3
                    go_wp2
                    exact ⟨⟨j + 1, by go_num, by omega, R3, B3⟩, by simp [intOf]; omega⟩
                · have n2 : (K == 2) = false := by simp [hK2]
                  have hh : (s.size : Int) ≤ m := by
                    have := HX.out
                    unfold ptErr at this
                    rw [if_neg hK0, if_neg hK1, if_neg hK2] at this
                    split at this
                    · cases this
                    · split at this
                      · cases this
                      · omega
                  have hls := sb_length s
                  obtain ⟨q1, q2, q3⟩ := tt_read (sb s) m (by rw [hls]; omega) (by rw [hls]; exact hh) (allBytes (P.drop (j + 1)))
                  rw [hls] at q1 q2 q3
                  have HC := fun w' hb => hide (ru_text r a4 n c4 (allBytes P) (allBytes (P.take j)).length 0 m hf6 w' (R.later2 hb))
                  have eB : ptBytes K V N s = M.form s.size ++ sb s := by unfold ptBytes; rw [if_neg hK0, if_neg (by omega)]
                  rw [HD.out, HY.out] at HC
                  rw [eB] at HC HY
                  rw [q1, q2, q3, sel_ok, selL_ok, selE_ok, str_sb, ← HY.out, ← HT.out] at HC
                  clear q1 q2 q3 eB HD HX HY HT R hK0 hK1 hK2 hls
                  go_wp2_with fail
                  have hbW : Below wr.heap.size wr (wr.alloc (Obj.cells #[.int .i64 K, .int .u64 V, .int .i64 N, .int .i64 m, .string s] 35)) := (Below.refl _ _).alloc (Nat.le_refl _) _
                  have x3 : (wr.alloc (Obj.cells #[.int .i64 K, .int .u64 V, .int .i64 N, .int .i64 m, .string s] 35)).cell? ⟨wr.heap.size, 3, none⟩ = some (.int .i64 m) := by simp
                  have x4 : (wr.alloc (Obj.cells #[.int .i64 K, .int .u64 V, .int .i64 N, .int .i64 m, .string s] 35)).cell? ⟨wr.heap.size, 4, none⟩ = some (.string s) := by simp
                  generalize wr.alloc (Obj.cells #[.int .i64 K, .int .u64 V, .int .i64 N, .int .i64 m, .string s] 35) = W at *
                  generalize wr.heap.size = z at *
                  go_region_with (go_at_call 16; refine (HC _ (hbW.drew)).out.mono ?_; rintro e w3 ⟨rfl, R3, o3⟩; have y3 := (o3.cell (p := ⟨z, 3, none⟩) hnr).trans x3; have y4 := (o3.cell (p := ⟨z, 4, none⟩) hnr).trans x4)
                  all_goals
                    have B3 : Below w.heap.size w w3 := (B.trans (hbW.drew.mono hBz)).trans (o3.below hr)
                    clear o3
                    go_wp2
                    exact ⟨⟨j + 1, by go_num, by omega, R3, B3⟩, by simp [intOf]; omega⟩
          · obtain rfl : j = k := by omega
            rw [List.take_of_length_le (by rw [HLN.out]; exact Nat.le_refl _), HNL.out] at R
            have HEn := hide (rd_end r a4 n c4 (allBytes P) n 0 wr R)
            have hee : endErr n n 0 = 0 := by unfold endErr; rw [if_pos rfl, if_neg (by omega)]
            rw [hee] at HEn
            have HA := fun q => hide (rd_at r a4 n c4 (allBytes P) n 0 (wr.drewN q) (R.drawn' q))
            have HLf := fun q => hide (rd_left r a4 n c4 (allBytes P) n 0 (wr.drewN q) (R.drawn' q))
            rw [Nat.sub_self] at HLf
            clear hP hall hsz R hee
            go_wp2_with fail
            refine HEn.out.mono ?_
            rintro e w5 ⟨rfl, j5, rfl⟩
            go_wp2_with (go_at_call 6; go_in)
            refine (HA _).out.mono ?_
            rintro e w6 ⟨rfl, hw6⟩
            rw [hw6]
            clear hw6
            go_wp2_with fail
            refine (HLf _).out.mono ?_
            rintro e w7 ⟨rfl, j7, hw7⟩
            rw [World.drewN_drewN] at hw7
            rw [hw7]
            have B7 := below_drewN B (j5 + j7)
            go_wp2
            go_ret
            exact ⟨rfl, B7⟩
      · have hb : (firstErr P != 0) = true := by simp [hE]
        go_wp2_with fail
        refine (wbytes_bad bq (firstErr P) wr T).mono ?_
        rintro e w3 ⟨rfl, j3, rfl⟩
        have B3 := below_drewN B j3
        have HR := hide (refused_any a0 k cap0 P (wr.drewN j3) (hP.later B3) HLN.out hcap hmx hE)
        generalize firstErr P = E at *
        clear T
        go_wp2_with (go_at_call 6; go_in)
        refine HR.out.mono ?_
        rintro e w4 ⟨rfl, b4⟩
        go_wp2
        go_ret
        exact ⟨rfl, B3.trans (b4.mono B3.size)⟩
end Go.Proofs.Ythhghenaflnlfaa
