import Derived.Test.YtnndldhljonnpaaDoorNth
import Derived.Test.YtnndldhljonnpaaDoorRq9
namespace Go.Proofs.YtnndldhljonnpaaDoor
open Go.RowKit Go.Sort Go.Lib
set_option linter.unusedVariables false
set_option linter.unusedSimpArgs false

theorem fmtu_any (u : Nat) (h2 : u < 18446744073709551616) (w : World) (ht : Tab w) :
    Calls Tryd.prog 13 #[.int .u64 (u : Int), .int .i64 10] w fun e w' => e = .returned (.string ⟨(Lib.decDigits u).toArray⟩) ∧ Below w.heap.size w w' := by
  have F := hide (fmtu_in u h2 w ht)
  go_enter Tryd.func13, Tryd.ntmps13
  go_wp2_with fail
  refine F.out.mono ?_
  rintro e w' ⟨rfl, b⟩
  dsimp only
  go_wp2
  go_ret
  exact ⟨rfl, b⟩
/-- A draw's text, as a string. -/
def dS (n : Nat) : ByteArray := ⟨(Lib.decDigits n).toArray⟩
def prS (h l : Nat) : ByteArray := dS h ++ ⟨#[46]⟩ ++ dS l
theorem bts_dS (n : Nat) : bts (dS n) = dn n := by unfold dS; rw [bts_data]; rfl
theorem bts_prS (h l : Nat) : bts (prS h l) = pr h l := by
  unfold prS pr
  rw [bts_app, bts_app, bts_dS, bts_dS, List.append_assoc]
  rfl
theorem dn_len (n : Nat) (h : n < 18446744073709551616) : (dn n).length ≤ 20 := by
  unfold dn
  rw [List.length_map, Lib.decDigits_length]
  by_cases h0 : n = 0
  · subst h0; rw [Lib.nDigits_small (by omega)]; omega
  · have := Lib.numDigits_eq n (by omega) h
    split at this <;> omega
theorem dS_size (n : Nat) (h : n < 18446744073709551616) : (dS n).size ≤ 20 := by rw [← bts_len, bts_dS]; exact dn_len n h
theorem prS_size (h l : Nat) (hh : h < 18446744073709551616) (hl : l < 18446744073709551616) : (prS h l).size ≤ 41 := by
  rw [← bts_len, bts_prS]
  unfold pr
  have := dn_len h hh
  have := dn_len l hl
  simp
  omega
set_option maxRecDepth 100000 in
set_option maxHeartbeats 1000000 in
theorem print_any (h l : Nat) (hh : h < 18446744073709551616) (hl : l < 18446744073709551616) (w : World) (ht : Tab w) :
    Calls Tryd.prog 6 #[.agg #[.int .u64 (h : Int), .int .u64 (l : Int)]] w fun e w' => e = .returned (.string (prS h l)) ∧ Below w.heap.size w w' := by
  have HB : Hid (∀ v, Below (w.heap.size + 1) (w.alloc (.cells #[.int .u64 (h : Int), .int .u64 (l : Int)] 24)) v → Below w.heap.size w v) := fun v hv => ((Below.refl _ w).alloc (Nat.le_refl _) _).trans (hv.mono (by omega))
  have KC : Hid (∀ v, Below (w.heap.size + 1) (w.alloc (.cells #[.int .u64 (h : Int), .int .u64 (l : Int)] 24)) v → v.cell? ⟨w.heap.size, 0, none⟩ = some (.int .u64 (h : Int)) ∧ v.cell? ⟨w.heap.size, 1, none⟩ = some (.int .u64 (l : Int))) := fun v hv =>
    ⟨(hv.cell (p := ⟨w.heap.size, 0, none⟩) (by simp)).trans (by simp), (hv.cell (p := ⟨w.heap.size, 1, none⟩) (by simp)).trans (by simp)⟩
  have KZ : Hid (∀ v, Below (w.heap.size + 1) (w.alloc (.cells #[.int .u64 (h : Int), .int .u64 (l : Int)] 24)) v → w.heap.size + 1 ≤ v.heap.size) := fun v hv => by have := hv.size; simpa using this
  have HT := hide ht
  have z1 := dS_size h hh
  have z2 := dS_size l hl
  have z3 : (dS h ++ ⟨#[46]⟩).size ≤ 21 := by rw [ByteArray.size_append]; have : (ByteArray.mk #[46]).size = 1 := rfl; omega
  have F1 := hide (fun v (hv : Tab v) => fmtu_any h hh v hv)
  have F2 := hide (fun v (hv : Tab v) => fmtu_any l hl v hv)
  clear ht
  go_enter Tryd.func6, Tryd.ntmps6
  go_wp2_with fail
  refine region_q9 (C := fun v => Below (w.heap.size + 1) (w.alloc (.cells #[.int .u64 (h : Int), .int .u64 (l : Int)] 24)) v) (by kernel_rfl) (by kernel_rfl) ((Below.refl _ _).drew) ?_
  refine wqv (u := .pointer (some ⟨w.heap.size, 0, none⟩)) (by kernel_rfl) (fun v hv => by go_simp) ?_
  simp only [Act.put, List.setIfInBounds_toArray, List.set_cons_zero, List.set_cons_succ]
  refine wqv (u := .int .u64 (h : Int)) (by kernel_rfl) (fun v hv => by obtain ⟨y0, y1⟩ := KC.out v hv; go_simp) ?_
  simp only [Act.put, List.setIfInBounds_toArray, List.set_cons_zero, List.set_cons_succ]
  refine wqc (fid := 13) (args := #[.int .u64 (h : Int), .int .i64 10]) (u := .string (dS h)) (by kernel_rfl) (fun v => by kernel_rfl) (fun v hv => (F1.out v (HT.out.of_below (HB.out v hv))).mono fun e w' h => ⟨h.1, hv.trans (h.2.mono (KZ.out v hv))⟩) ?_
  simp only [Act.put, List.setIfInBounds_toArray, List.set_cons_zero, List.set_cons_succ]
  refine wqv (u := .string (dS h ++ ⟨#[46]⟩)) (by kernel_rfl) (fun v hv => by simp only [execOp]; go_simp; omega) ?_
  simp only [Act.put, List.setIfInBounds_toArray, List.set_cons_zero, List.set_cons_succ]
  refine wqv (u := .pointer (some ⟨w.heap.size, 1, none⟩)) (by kernel_rfl) (fun v hv => by go_simp) ?_
  simp only [Act.put, List.setIfInBounds_toArray, List.set_cons_zero, List.set_cons_succ]
  refine wqv (u := .int .u64 (l : Int)) (by kernel_rfl) (fun v hv => by obtain ⟨y0, y1⟩ := KC.out v hv; go_simp) ?_
  simp only [Act.put, List.setIfInBounds_toArray, List.set_cons_zero, List.set_cons_succ]
  refine wqc (fid := 13) (args := #[.int .u64 (l : Int), .int .i64 10]) (u := .string (dS l)) (by kernel_rfl) (fun v => by kernel_rfl) (fun v hv => (F2.out v (HT.out.of_below (HB.out v hv))).mono fun e w' h => ⟨h.1, hv.trans (h.2.mono (KZ.out v hv))⟩) ?_
  simp only [Act.put, List.setIfInBounds_toArray, List.set_cons_zero, List.set_cons_succ]
  refine wqv (u := .string (prS h l)) (by kernel_rfl) (fun v hv => by simp only [execOp]; go_simp; rw [if_neg (by omega)]; rfl) ?_
  simp only [Act.put, List.setIfInBounds_toArray, List.set_cons_zero, List.set_cons_succ]
  refine wqv (u := .string (prS h l)) (by kernel_rfl) (fun v hv => by kernel_rfl) ?_
  simp only [Act.put, List.setIfInBounds_toArray, List.set_cons_zero, List.set_cons_succ]
  refine wqnil (fun v hv => ?_)
  have BV := hide (HB.out v hv)
  clear hv KC KZ HB F1 F2
  go_wp2
  go_ret
  exact ⟨rfl, BV.out⟩

/-- A string of one byte. -/
def dg1 (d : Nat) : ByteArray := ⟨#[UInt8.ofNat d]⟩
theorem bts_dg1 {d : Nat} (h : d < 256) : bts (dg1 d) = [d] := by unfold bts dg1; simp; omega
theorem one_str (W : World) (T : TypeId) (d : Nat) (hd : d < 256) : (convert 55 9 (.slice (some ⟨W.heap.size, 0, none⟩) 1 1)).run Tryd.prog (W.alloc (.cells #[.int .u8 (d : Int)] T)) = .ok (.string (dg1 d)) (W.alloc (.cells #[.int .u8 (d : Int)] T)) := by
  have h := run_convert_bytes_back (P := Tryd.prog) (W.alloc (.cells #[.int .u8 (d : Int)] T)) 55 9 5 ⟨W.heap.size, 0, none⟩ 1 [UInt8.ofNat d] Tryd.underlying55 Tryd.underlying5 Tryd.underlying9 (fun j hj => by
    have : j = 0 := by simp at hj; omega
    subst this
    have e : ((UInt8.ofNat d).toNat : Int) = (d : Int) := by simp; omega
    simp [Addr.add, e]
    omega)
  exact h
theorem dn_last (n : Nat) : dn n = (dn n).dropLast ++ [48 + n % 10] := by
  by_cases h : n < 10
  · rw [dn_small h, show n % 10 = n by omega]; rfl
  · rw [dn_big h]; simp
set_option maxRecDepth 100000 in
set_option maxHeartbeats 1000000 in
/-- The document's decimal. -/
theorem decimal_any (N : Nat) (hN : N < 18446744073709551616) (w : World) :
    Calls Tryd.prog 18 #[.int .u64 (N : Int)] w fun e w' => ∃ s, e = .returned (.string s) ∧ bts s = dn N ∧ Below w.heap.size w w' := by
  have o1 := fun W T => one_str W T (48 + N % 10) (by omega)
  have q1 : IntKind.u64.wrap (48 + (N : Int) % 10) = 48 + (N : Int) % 10 := by simp [IntKind.wrap, IntKind.bits, IntKind.signed]; omega
  have q2 : IntKind.u8.wrap (48 + (N : Int) % 10) = 48 + (N : Int) % 10 := by simp [IntKind.wrap, IntKind.bits, IntKind.signed]; omega
  rw [show ((48 + N % 10 : Nat) : Int) = 48 + (N : Int) % 10 by omega] at o1
  go_enter Tryd.func18, Tryd.ntmps18
  go_wp2
  have HS : Hid ((dn N).dropLast ++ bts (dg1 (48 + N % 10)) = dn N) := by
    unfold Hid
    conv => rhs; rw [dn_last]
    rw [bts_dg1 (by omega)]
  have BA := hide ((Below.refl w.heap.size w).alloc (Nat.le_refl _) (.cells #[.int .u8 (48 + (N : Int) % 10)] 5))
  clear o1 q1 q2
  go_loopw [0, 3] (fun vn vs wr => ∃ (n : Nat) (s : ByteArray), vn = .int .u64 (n : Int) ∧ vs = .string s ∧ n ≤ N ∧ Hid ((dn n).dropLast ++ bts s = dn N) ∧ Hid (Below w.heap.size w wr)) (fun vn _ _ => (RowKit.intOf vn).toNat)
  case atStart => exact ⟨N, _, rfl, rfl, Nat.le_refl _, HS, (Below.refl w.heap.size w).alloc (Nat.le_refl _) _⟩
  case round =>
    clear HS BA
    obtain ⟨n, s, rfl, rfl, hn, HD, HB⟩ := hrel
    by_cases h10 : n < 10
    · have E : Hid (bts s = dn N) := by
        have := HD.out
        rw [dn_small h10] at this
        exact this
      clear HD
      go_wp2
      go_ret
      exact ⟨s, rfl, E.out, HB.out⟩
    · have o2 := fun W T => one_str W T (48 + n / 10 % 10) (by omega)
      have q1 : IntKind.u64.wrap (48 + (n : Int) / 10 % 10) = 48 + (n : Int) / 10 % 10 := by simp [IntKind.wrap, IntKind.bits, IntKind.signed]; omega
      have q2 : IntKind.u8.wrap (48 + (n : Int) / 10 % 10) = 48 + (n : Int) / 10 % 10 := by simp [IntKind.wrap, IntKind.bits, IntKind.signed]; omega
      rw [show ((48 + n / 10 % 10 : Nat) : Int) = 48 + (n : Int) / 10 % 10 by omega] at o2
      have hsz : s.size ≤ 20 := by
        have h1 := congrArg List.length HD.out
        have h2 := dn_len N hN
        rw [List.length_append, bts_len] at h1
        omega
      have hb : ¬ (9223372036854775807 < 1 + s.size) := by omega
      have hb2 : (dg1 (48 + n / 10 % 10)).size = 1 := rfl
      have HD2 : Hid ((dn (n / 10)).dropLast ++ bts (dg1 (48 + n / 10 % 10) ++ s) = dn N) := by
        have h1 := HD.out
        rw [dn_big h10, List.dropLast_concat, dn_last (n / 10)] at h1
        unfold Hid
        rw [bts_app, ← List.append_assoc]
        refine Eq.trans ?_ h1
        rw [bts_dg1 (by omega)]
      have HB2 : ∀ o, Hid (Below w.heap.size w (wr.alloc o)) := fun o => HB.out.alloc HB.out.size o
      clear HD HB
      go_wp2
      go_round
      case rel => exact ⟨n / 10, _, by congr 1, rfl, by omega, HD2, HB2 _⟩
      case measure => simp [RowKit.intOf]; omega

theorem bts_inj {a b : ByteArray} (h : bts a = bts b) : a = b := by
  obtain ⟨⟨x⟩⟩ := a
  obtain ⟨⟨y⟩⟩ := b
  have := toNat_inj h
  simp at this
  rw [this]
theorem decimal_s (N : Nat) (hN : N < 18446744073709551616) (w : World) :
    Calls Tryd.prog 18 #[.int .u64 (N : Int)] w fun e w' => e = .returned (.string (dS N)) ∧ Below w.heap.size w w' :=
  (decimal_any N hN w).mono fun e w' ⟨s, h1, h2, h3⟩ => ⟨by rw [h1, bts_inj (h2.trans (bts_dS N).symm)], h3⟩
set_option maxRecDepth 100000 in
set_option maxHeartbeats 1000000 in
/-- The document's Print. -/
theorem refprint_any (h l : Nat) (hh : h < 18446744073709551616) (hl : l < 18446744073709551616) (w : World) :
    Calls Tryd.prog 9 #[.agg #[.int .u64 (h : Int), .int .u64 (l : Int)]] w fun e w' => e = .returned (.string (prS h l)) ∧ Below w.heap.size w w' := by
  have HB : Hid (∀ v, Below (w.heap.size + 1) (w.alloc (.cells #[.int .u64 (h : Int), .int .u64 (l : Int)] 24)) v → Below w.heap.size w v) := fun v hv => ((Below.refl _ w).alloc (Nat.le_refl _) _).trans (hv.mono (by omega))
  have KC : Hid (∀ v, Below (w.heap.size + 1) (w.alloc (.cells #[.int .u64 (h : Int), .int .u64 (l : Int)] 24)) v → v.cell? ⟨w.heap.size, 0, none⟩ = some (.int .u64 (h : Int)) ∧ v.cell? ⟨w.heap.size, 1, none⟩ = some (.int .u64 (l : Int))) := fun v hv =>
    ⟨(hv.cell (p := ⟨w.heap.size, 0, none⟩) (by simp)).trans (by simp), (hv.cell (p := ⟨w.heap.size, 1, none⟩) (by simp)).trans (by simp)⟩
  have KZ : Hid (∀ v, Below (w.heap.size + 1) (w.alloc (.cells #[.int .u64 (h : Int), .int .u64 (l : Int)] 24)) v → w.heap.size + 1 ≤ v.heap.size) := fun v hv => by have := hv.size; simpa using this
  have z1 := dS_size h hh
  have z2 := dS_size l hl
  have z3 : (dS h ++ ⟨#[46]⟩).size ≤ 21 := by rw [ByteArray.size_append]; have : (ByteArray.mk #[46]).size = 1 := rfl; omega
  have F1 := hide (fun v => decimal_s h hh v)
  have F2 := hide (fun v => decimal_s l hl v)
  go_enter Tryd.func9, Tryd.ntmps9
  go_wp2_with fail
  refine region_q9 (C := fun v => Below (w.heap.size + 1) (w.alloc (.cells #[.int .u64 (h : Int), .int .u64 (l : Int)] 24)) v) (by kernel_rfl) (by kernel_rfl) ((Below.refl _ _).drew) ?_
  refine wqv (u := .pointer (some ⟨w.heap.size, 0, none⟩)) (by kernel_rfl) (fun v hv => by go_simp) ?_
  simp only [Act.put, List.setIfInBounds_toArray, List.set_cons_zero, List.set_cons_succ]
  refine wqv (u := .int .u64 (h : Int)) (by kernel_rfl) (fun v hv => by obtain ⟨y0, y1⟩ := KC.out v hv; go_simp) ?_
  simp only [Act.put, List.setIfInBounds_toArray, List.set_cons_zero, List.set_cons_succ]
  refine wqc (fid := 18) (args := #[.int .u64 (h : Int)]) (u := .string (dS h)) (by kernel_rfl) (fun v => by kernel_rfl) (fun v hv => (F1.out v).mono fun e w' h => ⟨h.1, hv.trans (h.2.mono (KZ.out v hv))⟩) ?_
  simp only [Act.put, List.setIfInBounds_toArray, List.set_cons_zero, List.set_cons_succ]
  refine wqv (u := .string (dS h ++ ⟨#[46]⟩)) (by kernel_rfl) (fun v hv => by simp only [execOp]; go_simp; omega) ?_
  simp only [Act.put, List.setIfInBounds_toArray, List.set_cons_zero, List.set_cons_succ]
  refine wqv (u := .pointer (some ⟨w.heap.size, 1, none⟩)) (by kernel_rfl) (fun v hv => by go_simp) ?_
  simp only [Act.put, List.setIfInBounds_toArray, List.set_cons_zero, List.set_cons_succ]
  refine wqv (u := .int .u64 (l : Int)) (by kernel_rfl) (fun v hv => by obtain ⟨y0, y1⟩ := KC.out v hv; go_simp) ?_
  simp only [Act.put, List.setIfInBounds_toArray, List.set_cons_zero, List.set_cons_succ]
  refine wqc (fid := 18) (args := #[.int .u64 (l : Int)]) (u := .string (dS l)) (by kernel_rfl) (fun v => by kernel_rfl) (fun v hv => (F2.out v).mono fun e w' h => ⟨h.1, hv.trans (h.2.mono (KZ.out v hv))⟩) ?_
  simp only [Act.put, List.setIfInBounds_toArray, List.set_cons_zero, List.set_cons_succ]
  refine wqv (u := .string (prS h l)) (by kernel_rfl) (fun v hv => by simp only [execOp]; go_simp; rw [if_neg (by omega)]; rfl) ?_
  simp only [Act.put, List.setIfInBounds_toArray, List.set_cons_zero, List.set_cons_succ]
  refine wqv (u := .string (prS h l)) (by kernel_rfl) (fun v hv => by kernel_rfl) ?_
  simp only [Act.put, List.setIfInBounds_toArray, List.set_cons_zero, List.set_cons_succ]
  refine wqnil (fun v hv => ?_)
  have BV := hide (HB.out v hv)
  clear hv KC KZ HB F1 F2
  go_wp2
  go_ret
  exact ⟨rfl, BV.out⟩

end Go.Proofs.YtnndldhljonnpaaDoor
