import Derived.Test.YtegkkoggfjgkbaaFr
import Derived.Test.YtegkkoggfjgkbaaSe
import Derived.Deep.RegionLaw
namespace Go.Proofs.Ytegkkoggfjgkbaa.Wi
open Go.RowKit
set_option linter.unusedVariables false

theorem st_odd (s : Nat) (h : s < 4294967296) (ho : s % 2 = 1) : bits .xor .u32 ((s : Int) / 2) 3988292384 = ((M.st s : Nat) : Int) := by
  have e3 : ((s : Int) / (2 : Int)) = ((s >>> 1 : Nat) : Int) := by rw [Nat.shiftRight_eq_div_pow]; omega
  have h2 : s >>> 1 < 4294967296 := by rw [Nat.shiftRight_eq_div_pow]; omega
  rw [e3]
  refine (u32_xor_nat (s >>> 1) 3988292384 h2 (by omega)).trans ?_
  unfold M.st
  rw [Nat.and_one_is_mod, ho]
theorem st_even (s : Nat) (ho : s % 2 = 0) : ((s : Int) / 2) = ((M.st s : Nat) : Int) := by
  have e3 : ((s : Int) / (2 : Int)) = ((s >>> 1 : Nat) : Int) := by rw [Nat.shiftRight_eq_div_pow]; omega
  rw [e3]
  unfold M.st
  rw [Nat.and_one_is_mod, ho]
  simp
theorem odd_test (s : Nat) (h : s < 4294967296) : (bits .and .u32 (s : Int) 1 == 1) = decide (s % 2 = 1) := by
  have e1 : bits .and .u32 (s : Int) 1 = ((s &&& 1 : Nat) : Int) := u32_and_nat s 1 h (by omega)
  rw [e1, Nat.and_one_is_mod]
  have h2 : s % 2 < 2 := Nat.mod_lt _ (by omega)
  generalize s % 2 = b at *
  match b, h2 with
  | 0, _ | 1, _ => rfl
theorem not_bits' (a : Nat) (ha : a < 4294967296) : bits .xor .u32 (a : Int) 4294967295 = ((4294967295 ^^^ a : Nat) : Int) := by
  have := u32_xor_nat a 4294967295 ha (by omega)
  rw [Nat.xor_comm]
  exact this

set_option maxRecDepth 100000 in
set_option maxHeartbeats 1000000 in
theorem refsum_any (x : Addr) (len cap : Nat) (zs : List Int) (w : World) (hlen : zs.length = len) (hmax : len ≤ maxLen) (hc : Row w x zs) (hb : ∀ z ∈ zs, 0 ≤ z ∧ z < 256) :
    Calls Try.prog 22 #[.slice (some x) len cap] w fun e w' => e = .returned (.int .u32 (M.sum zs)) ∧ w' = w := by
  unfold maxLen at hmax
  have HLN := hide hlen
  clear hlen
  obtain ⟨xb, xo, xs⟩ := x
  go_enter Try.func22, Try.ntmps22
  go_wp2
  go_loop [3, 4, 5, 6] (fun t i _ _ => ∃ k : Nat, k ≤ len ∧ i = .int .i64 k ∧ t = .int .u32 (M.fold 4294967295 (zs.take k) : Nat)) (fun _ i _ _ => len - (intOf i).toNat)
  case atStart => exact ⟨0, Nat.zero_le _, rfl, rfl⟩
  case round =>
    obtain ⟨k, hk, rfl, rfl⟩ := hrel
    by_cases hlt : k < len
    · have hkl : k < zs.length := by rw [HLN.out]; exact hlt
      have hcell := hc k hkl
      have hz : 0 ≤ zs.getD k 0 ∧ zs.getD k 0 < 256 := hb _ (by simp [List.getD, hkl])
      have hfl : M.fold 4294967295 (zs.take k) < 4294967296 := M.fold_lt _ _ (by omega) (fun z hz => (hb z (List.mem_of_mem_take hz)).2)
      have HS := hide (M.fold_take 4294967295 zs k hkl)
      have HX := hide (u32_xor_cast _ _ hfl hz.1 hz.2)
      have hq : M.fold 4294967295 (zs.take k) ^^^ (zs.getD k 0).toNat < 4294967296 := M.xor_lt hfl (by omega)
      clear hkl
      go_wp2
      rw [show zs[k]?.getD 0 = zs.getD k 0 from rfl, HX.out]
      have HU : Hid (M.upd (M.fold 4294967295 (zs.take k)) (zs.getD k 0) = M.stN 8 (M.fold 4294967295 (zs.take k) ^^^ (zs.getD k 0).toNat)) := rfl
      generalize M.fold 4294967295 (zs.take k) ^^^ (zs.getD k 0).toNat = s0 at *
      go_loop [3, 5, 6] (fun t i _ => ∃ j : Nat, j ≤ 8 ∧ i = .int .i64 j ∧ t = .int .u32 (M.stN j s0 : Nat)) (fun _ i _ => 8 - (intOf i).toNat)
      case atStart => exact ⟨0, by omega, rfl, rfl⟩
      case round =>
        obtain ⟨j, hj, rfl, rfl⟩ := hrel
        have hsl := M.stN_lt j s0 hq
        have HT : Hid (M.st (M.stN j s0) = M.stN (j + 1) s0) := rfl
        have HR := hide (st_odd (M.stN j s0) hsl)
        have HE := hide (st_even (M.stN j s0))
        have hot := odd_test (M.stN j s0) hsl
        by_cases hj8 : j < 8
        · by_cases hodd : M.stN j s0 % 2 = 1
          · rw [decide_eq_true hodd] at hot
            have HO := hide (HR.out hodd)
            clear hodd HE HR
            go_wp2
            go_round
            case rel => exact ⟨j + 1, by omega, by go_num, int_eq (by rw [← HT.out]; exact HO.out)⟩
            case measure => simp [intOf]; omega
          · rw [decide_eq_false hodd] at hot
            have HO := hide (HE.out (by omega))
            clear hodd HE HR
            go_wp2
            go_round
            case rel => exact ⟨j + 1, by omega, by go_num, int_eq (by rw [← HT.out]; exact HO.out)⟩
            case measure => simp [intOf]; omega
        · clear hot HE HR
          go_wp2
          go_round
          case rel =>
            refine ⟨k + 1, by omega, by go_num, ?_⟩
            obtain rfl : j = 8 := by omega
            exact int_eq (by rw [HS.out, HU.out])
          case measure => simp [intOf]; omega
    · obtain rfl : k = len := by omega
      have hfl : M.fold 4294967295 (zs.take k) < 4294967296 := M.fold_lt _ _ (by omega) (fun z hz => (hb z (List.mem_of_mem_take hz)).2)
      have HX := hide (not_bits' _ hfl)
      go_wp2
      go_ret
      refine ⟨ret_int ?_, rfl⟩
      rw [show M.sum zs = 4294967295 ^^^ M.fold 4294967295 (zs.take k) from by rw [List.take_of_length_le (Nat.le_of_eq HLN.out)]; rfl]
      exact HX.out

theorem Own.kept {B : Nat} {w w' : World} {v : Value} {l : List Int} (h : Own B w v l) (hb : Below w.heap.size w w') : Own B w' v l := by
  refine ⟨h.1, ?_⟩
  rcases h.2 with h2 | ⟨g, c, cur, h1, h2, h3, r⟩
  · exact Or.inl h2
  · exact Or.inr ⟨g, c, cur, h1, h2, by rw [hb.block g ((World.ownsRow.lt h g (by rw [h1]; rfl)).2)]; exact h3, r⟩
theorem own_built (w : World) (C : Array Value) (n : Nat) (l : List Int) (hn : l.length = n) (hC : C.toList = bs l) (hm : n ≤ maxLen) : Own w.heap.size (w.alloc (.cells C 5)) (.slice (some ⟨w.heap.size, 0, none⟩) n n) l := by
  subst hn
  have hsz : C.size = l.length := by rw [← Array.length_toList, hC]; simp [bs]
  refine ⟨by simp [bs], .inr ⟨w.heap.size, l.length, C, rfl, Nat.le_refl _, heap_alloc_new w _, Nat.le_refl _, hm, by rw [hsz, Nat.mul_one], ?_⟩⟩
  rw [hC]
  exact List.take_of_length_le (by simp [bs])
theorem be4_vals (n : Nat) (h : n < 4294967296) : bs (M.be n 4) = [.int .u8 ((n : Int) / 16777216), .int .u8 ((n : Int) / 65536 % 256), .int .u8 ((n : Int) / 256 % 256), .int .u8 ((n : Int) % 256)] := by
  rw [be4]
  simp only [bs, List.map_cons, List.map_nil, M.beAt, Nat.shiftRight_eq_div_pow, List.cons.injEq, Value.int.injEq, true_and, and_true]
  simp
  omega

set_option maxRecDepth 100000 in
theorem four_any (n : Nat) (w : World) (h : n < 4294967296) :
    Calls Try.prog 24 #[.int .u32 n] w fun e w' => e = .returned (.slice (some ⟨w.heap.size, 0, none⟩) 4 4) ∧ Own w.heap.size w' (.slice (some ⟨w.heap.size, 0, none⟩) 4 4) (M.be n 4) ∧ Below w.heap.size w w' := by
  go_enter Try.func24, Try.ntmps24
  go_wp2
  go_ret
  exact ⟨rfl, own_built w _ 4 (M.be n 4) rfl (by rw [be4_vals n h]) (by unfold maxLen; omega), (Below.refl _ _).alloc (Nat.le_refl _) _⟩

theorem refseal_long (a : Option Addr) (n c : Nat) (w : World) (h : 32756 < n) :
    Calls Try.prog 6 #[.slice a n c] w fun e w' => e = .returned (.tuple #[.slice none 0 0, .int .i64 11]) ∧ w' = w := by
  go_enter Try.func6, Try.ntmps6
  go_wp2
  go_ret2
  exact ⟨rfl, rfl⟩

theorem le_be (S : Nat) : M.le S 4 = [M.beAt S 3, M.beAt S 2, M.beAt S 1, M.beAt S 0] := by
  rw [le4]
  rfl
/-- 'append' of bytes, in a region that draws its order. -/
theorem step_bytes {ops : Array Oper} {o : Oper} {a : Act} {w : World} {K : Act → World → Prop} {Q : Exit → Act → World → Prop} {E : Prop} (hg : o.guard = none) (s x : Operand)
    (ho : o.op = .call { callee := .builtin .append, args := #[s, x], argTypes := #[22, 22] }) (B : Nat) (l : List Int) (v : Value) (hs : a.eval s = v)
    (ad : Addr) (m c : Nat) (hx : a.eval x = .slice (some ad) m c) (news : List Int) (hm : news.length = m) (hc : Row w ad news) (hown : Own B w v l) (hB : B ≤ w.heap.size) (hb : l.length + m ≤ 140737488355328)
    (hK : ∀ v' w', Own B w' v' (l ++ news) → Keeps v v' m → w.grownBy w' v.ownBlock → K (a.put o.dst v') w') :
    if Region.wanted o (yielded ops a.tmps) = true then Oper.wp Try.prog o a w K Q else E := by
  have hw : Region.wanted o (yielded ops a.tmps) = true := by simp [Region.wanted, hg]
  rw [if_pos hw]
  obtain ⟨i0, hi, hz0, hz1, hz2⟩ := info_parts Try.info5
  refine wp_append_own w s x 22 ho B 5 i0 (.int .u8 0) 1 1 Try.underlying22 hi hz0 hz1 hz2 rfl (by decide) v l.length (bs l) hs hown ad m c (bs news) hx (by simp [bs, hm]) ?_ (bs_oneCell _) (by unfold maxLen; omega) (by omega) hB ?_
  · intro j u hu
    have hj : j < news.length := by simpa [bs] using (List.getElem?_eq_some_iff.1 hu).1
    rw [hc j hj, ← hu]
    simp [bs, hj, List.getD]
  · intro v' w' h2 h3 h4
    refine hK v' w' ?_ ?_ h3
    · unfold Own; rw [bs_append, List.length_append, hm]; exact h2
    · intro hp he
      obtain ⟨k1, k2⟩ := h4.1 he
      rcases hp with hp | hp
      · exact hp k1
      · omega

set_option maxRecDepth 100000 in
set_option maxHeartbeats 1000000 in
theorem refseal_ok (a : Option Addr) (n c : Nat) (l : List Int) (w : World) (hh : Hs w a n c l) (h : n ≤ 32756) :
    Calls Try.prog 6 #[.slice a n c] w fun e w' => ∃ v', e = .returned (.tuple #[v', .int .i64 0]) ∧ Own w.heap.size w' v' (M.frame l) ∧ v' ≠ .slice none 0 0 ∧ Below w.heap.size w w' := by
  have hH := hide hh.len
  have hby := hh.byte
  go_enter Try.func6, Try.ntmps6
  go_wp2_with (at_builtin; go_must (refine app_any _ rfl (.tmp 9) (.tmp 10) rfl w.heap.size [] _ rfl ⟨w.heap.size, 0, none⟩ 4 4 rfl M.magic rfl (Own.nil _ _) (by intro j hj; match j, hj with | 0, _ | 1, _ | 2, _ | 3, _ => simp [Addr.add_lit]; rfl) (by simp) (by decide) ?_))
  intro v1 w1 o1 k1 g1
  have hn1 := k1 (.inr (by omega))
  have b1 : Below w.heap.size w w1 := ((Below.refl _ _).alloc (Nat.le_refl _) _).grown g1 (by simp) (fun k hk => by cases hk)
  have z1 := b1.size
  clear k1 g1
  go_wp2_with fail
  refine (four_any n w1 (by omega)).mono ?_
  rintro e w2 ⟨rfl, o2, b2⟩
  have o1' : Own w.heap.size w2 v1 M.magic := o1.kept b2
  have b2' : Below w.heap.size w w2 := b1.trans (b2.mono z1)
  have z2 := b2'.size
  have r2 := o2.row
  clear o1 o2 b2 b1
  go_wp2_with (at_builtin; go_must (refine app_any _ rfl (.tmp 12) (.tmp 16) rfl w.heap.size M.magic v1 rfl ⟨w1.heap.size, 0, none⟩ 4 4 rfl (M.be n 4) rfl o1' (fun j hj => r2 j hj) z2 (by decide) ?_))
  intro v3 w3 o3 k3 g3
  have hn3 := k3 (.inl hn1)
  have b3 : Below w.heap.size w w3 := o1'.grown b2' g3 z2
  have z3 := b3.size
  clear k3 g3 o1' b2' hn1 r2
  go_wp2_with (at_builtin; go_must (refine app_hs _ rfl (.tmp 18) (.tmp 19) rfl w.heap.size (M.magic ++ M.be n 4) v3 rfl a n c rfl l (hh.later b3) o3 z3 (by simp [M.be_length, M.magic]; omega) ?_))
  intro v4 w4 o4 k4 g4
  have hn4 := k4 (.inl hn3)
  have b4 : Below w.heap.size w w4 := o3.grown b3 g4 z3
  have z4 := b4.size
  have o5 : Own w.heap.size w4 v4 (M.bare l) := by unfold M.bare; rw [hH.out]; simpa using o4
  have hbb := M.bare_byte l hby
  have hbl := M.bare_length l
  rw [hH.out] at hbl
  obtain ⟨g, cc, hv, hg1, hg2⟩ := o5.shape hn4
  rw [hbl] at hv
  subst hv
  clear k4 g4 o3 b3 hn3 hn4 o4
  have r5 := o5.row
  go_wp2_with fail
  refine (refsum_any ⟨g, 0, none⟩ (n + 8) cc (M.bare l) w4 hbl (by unfold maxLen; omega) r5 hbb).mono ?_
  rintro e w5 ⟨rfl, hx⟩
  rw [hx]
  clear hx
  have hS := M.sum_lt (M.bare l) (fun z hz => (hbb z hz).2)
  have HF : Hid (M.frame l = M.bare l ++ M.le (M.sum (M.bare l)) 4) := rfl
  have HBL := hide hbl
  clear hbb hbl r5 w5
  generalize M.sum (M.bare l) = S at *
  generalize M.bare l = L at *
  go_wp2_with fail
  refine (four_any S w4 hS).mono ?_
  rintro e w6 ⟨rfl, o6, b6⟩
  have o7 : Own w.heap.size w6 (.slice (some ⟨g, 0, none⟩) (n + 8) cc) L := o5.kept b6
  have b7 : Below w.heap.size w w6 := b4.trans (b6.mono z4)
  have z7 := b7.size
  have r6 := o6.row
  have q0 : w6.cell? ⟨w4.heap.size, 0, none⟩ = some (.int .u8 (M.beAt S 0)) := r6 0 (by simp [M.be_length])
  have q1 : w6.cell? ⟨w4.heap.size, 1, none⟩ = some (.int .u8 (M.beAt S 1)) := r6 1 (by simp [M.be_length])
  have q2 : w6.cell? ⟨w4.heap.size, 2, none⟩ = some (.int .u8 (M.beAt S 2)) := r6 2 (by simp [M.be_length])
  have q3 : w6.cell? ⟨w4.heap.size, 3, none⟩ = some (.int .u8 (M.beAt S 3)) := r6 3 (by simp [M.be_length])
  clear o6 b6 b4 r6 o5
  go_wp2_with fail
  go_region_law (refine step_bytes rfl (.tmp 24) (.tmp 37) rfl w.heap.size L _ rfl ⟨w6.heap.size, 0, none⟩ 4 4 rfl [M.beAt S 3, M.beAt S 2, M.beAt S 1, M.beAt S 0] rfl (by intro j hj; match j, hj with | 0, _ | 1, _ | 2, _ | 3, _ => simp [Addr.add_lit]) (by exact o7.alloc _) (by simp; omega) (by rw [HBL.out]; omega) ?_; intro v8 w8 o8 k8 g8)
  all_goals
    have hn8 := k8 (.inl (by intro hh; cases hh))
    have b8 : Below w.heap.size w w8 := Own.grown (by exact o7.alloc _) (by exact (b7.drew).alloc z7 _) g8 (by simp; omega)
    have o9 : Own w.heap.size w8 v8 (L ++ M.le S 4) := by rw [le_be]; exact o8
    clear o8 k8 g8 o7 b7 q0 q1 q2 q3
    go_wp2
    go_ret2
    exact ⟨_, rfl, by rw [HF.out]; exact o9, hn8, b8⟩
#print axioms refseal_ok

end Go.Proofs.Ytegkkoggfjgkbaa.Wi
