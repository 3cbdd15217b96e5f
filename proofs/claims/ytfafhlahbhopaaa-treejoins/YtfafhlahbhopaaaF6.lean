import Derived.Test.YtfafhlahbhopaaaF5
set_option maxRecDepth 100000
set_option linter.unusedVariables false
set_option linter.unusedSimpArgs false
namespace Go.Proofs.Ytfafhlahbhopaaa
open Go.RowKit Go.Maps
open Classical
theorem resHHT20 {fn : Func} {j k i : Tmp} {h1 h2 : Hs} {x : Value} {q1 q2 : Nat} {T : TypeId} {tmps : Array Value} {w : World} (hf : fn.results = #[.cell j 24, .cell k 24, .tmp i]) (hj : tmps[j]? = some (gw true (.pointer (some ⟨q1, 0, none⟩)))) (hk : tmps[k]? = some (gw true (.pointer (some ⟨q2, 0, none⟩)))) (hi : tmps[i]? = some (gw true x)) (hb1 : BB w q1 T h1.cs) (hb2 : BB w q2 T h2.cs) : (results fn tmps).run Try.prog w = .ok (.tuple #[h1.val, h2.val, x]) w := by
  have l1 := run_loadVar_mid (P := Try.prog) w q1 0 24 h1.cs _ (fun j v hv => by rw [Nat.zero_add]; rw [hb1.cell]; exact hv) Try.underlying24 rfl (by rw [h1.len]; exact i32h)
  have l2 := run_loadVar_mid (P := Try.prog) w q2 0 24 h2.cs _ (fun j v hv => by rw [Nat.zero_add]; rw [hb2.cell]; exact hv) Try.underlying24 rfl (by rw [h2.len]; exact i32h)
  have e1 : tmps.getD j undef = .pointer (some ⟨q1, 0, none⟩) := getD_of hj
  have e2 : tmps.getD k undef = .pointer (some ⟨q2, 0, none⟩) := getD_of hk
  have e3 : tmps.getD i undef = x := getD_of hi
  simp only [results, hf]
  simp only [Array.getD_eq_getD_getElem?] at e1 e2 e3
  have ev1 : h1.val = .agg h1.cs.toArray := rfl
  have ev2 : h2.val = .agg h2.cs.toArray := rfl
  rw [ev1, ev2]
  clear ev1 ev2 hb1 hb2
  generalize h1.cs.toArray = A1 at *
  generalize h2.cs.toArray = A2 at *
  simp [Sem.run_bind, Result.andThen, e1, e2, e3, asAddr, l1, l2]
  first | done | rfl
def MtP (h : Hs) (A B : List En) : Prop := ¬ A = B ∧ (hd (A.map lf)).v = h.v ∧ (hd (B.map lf)).v = h.v
theorem mt_eq (h : Hs) (A B : List En) : ((((!decide (A = B)) && (decide ((hd (A.map lf)).v = h.v))) && (decide ((hd (B.map lf)).v = h.v))) && true) = decide (MtP h A B) := by
  unfold MtP
  by_cases h1 : A = B <;> by_cases h2 : (hd (A.map lf)).v = h.v <;> by_cases h3 : (hd (B.map lf)).v = h.v <;> simp [h1, h2, h3]
theorem mt_g {A B : List En} {h : Hs} {n : Nat} (hl : A.length = n) (hl2 : B.length = n) (hc : (true && ((((!decide (A = B)) && (decide ((hd (A.map lf)).v = h.v))) && (decide ((hd (B.map lf)).v = h.v))) == true)) = true) : 1 ≤ n ∧ hd (A.map lf) = hd (B.map lf) ∧ ¬ A = B := by
  simp at hc
  refine ⟨?_, Hs.ext20 (hc.1.2.trans hc.2.symm), hc.1.1⟩
  rcases Nat.eq_zero_or_pos n with e | e
  · exact absurd (by rw [List.eq_nil_of_length_eq_zero (hl.trans e), List.eq_nil_of_length_eq_zero (hl2.trans e)]) hc.1.1
  · exact e
theorem mt_true {A B : List En} {h : Hs} (h1 : hd (A.map lf) = h) (h2 : hd (B.map lf) = h) (hne : ¬ A = B) : decide (MtP h A B) = true := decide_eq_true ⟨hne, by rw [h1], by rw [h2]⟩
set_option maxHeartbeats 2000000 in
theorem met20 (h : Hs) (A B : List En) (a : Option Addr) (n c : Nat) (a2 : Option Addr) (c2 : Nat) (w : World) (hA : SlY yE w a n c A) (hB : SlY yE w a2 n c2 B) (hn : n ≤ 1000000) (hvA : ∀ x ∈ A, x.o.v.size ≤ 140737488352232) (hvB : ∀ x ∈ B, x.o.v.size ≤ 140737488352232) :
    Calls Try.prog 63 #[h.val, .slice a n c, .slice a2 n c2] w fun e w' => e = .returned (.bool (decide (MtP h A B))) ∧ Below w.heap.size w w' := by
  go_enter Try.func63, Try.ntmps63
  go_upto_region 0 with fail
  refine wp_region_lit ?_
  refine vl_gen (fun T => Rp T 27 [(2, gw true (.slice a2 n c2)), (1, gw true (.slice a n c)), (0, gw true (h.val))]) ((((Rp.nil rfl).cons rfl).cons rfl).cons rfl) (fun Z0 q0 => ?_)
  obtain ⟨w1, hw1⟩ : ∃ y, y = w.alloc (.cells (h.cs).toArray 24) := ⟨_, rfl⟩
  refine vw (.pointer (some ⟨w.heap.size, 0, none⟩)) w1 (want_none rfl) (ex_box18 rfl (q0.e (j := 0) rfl) (by rw [hw1]; exact bxH20 _ _)) rfl q0.z (by decide) (q0.k fun _ q1 => ?_);clear q0
  have Bw1 : BB w1 w.heap.size 24 (h.cs) := by rw [hw1]; exact BB.new _ _ _
  have bw1 : Below w.heap.size w w1 := by rw [hw1]; exact (Below.refl _ _).alloc (Nat.le_refl _) _
  have zw1 : w1.heap.size = w.heap.size + 1 := by rw [hw1]; exact World.size_alloc _ _
  clear hw1
  have d2 : Below w.heap.size w w1 := bw1
  refine q1.t (.bool false) (ex_assign rfl rfl) fun _ q2 => ?_;clear q1
  refine wpList_nil ?_
  go_upto_region 1 with fail
  refine vp_start 27 (fun T v => Rp T 27 [(1, gw true (.slice a n c)), (2, gw true (.slice a2 n c2)), (3, gw true (.pointer (some ⟨w.heap.size, 0, none⟩)))] ∧ Upd (fun k => False) w1 v) (fun (i : Nat) (T : Array Value) (v : World) => match i with | 0 => T[7]? = some (gw true (.slice a n c)) | 1 => T[8]? = some (gw true (.slice a2 n c2)) | 2 => T[9]? = some (gw true (.bool (!decide (A = B)))) | 3 => T[10]? = some (gw true (.bool (!decide (A = B)))) | 4 => T[11]? = some (gw (true && ((!decide (A = B)) == true)) (.slice a n c)) | 5 => T[12]? = some (gw (true && ((!decide (A = B)) == true)) ((hd (A.map lf)).val)) | 6 => T[13]? = some (gw (true && ((!decide (A = B)) == true)) (h.val)) | 7 => T[14]? = some (gw (true && ((!decide (A = B)) == true)) (.bool (decide ((hd (A.map lf)).v = h.v)))) | 8 => T[15]? = some (gw true (.bool ((!decide (A = B)) && (decide ((hd (A.map lf)).v = h.v))))) | 9 => T[16]? = some (gw true (.bool ((!decide (A = B)) && (decide ((hd (A.map lf)).v = h.v))))) | 10 => T[17]? = some (gw (true && (((!decide (A = B)) && (decide ((hd (A.map lf)).v = h.v))) == true)) (.slice a2 n c2)) | 11 => T[18]? = some (gw (true && (((!decide (A = B)) && (decide ((hd (A.map lf)).v = h.v))) == true)) ((hd (B.map lf)).val)) | 12 => T[19]? = some (gw (true && (((!decide (A = B)) && (decide ((hd (A.map lf)).v = h.v))) == true)) (h.val)) | 13 => T[20]? = some (gw (true && (((!decide (A = B)) && (decide ((hd (A.map lf)).v = h.v))) == true)) (.bool (decide ((hd (B.map lf)).v = h.v)))) | 14 => T[21]? = some (gw true (.bool (((!decide (A = B)) && (decide ((hd (A.map lf)).v = h.v))) && (decide ((hd (B.map lf)).v = h.v))))) | 15 => T[22]? = some (gw true (.bool (((!decide (A = B)) && (decide ((hd (A.map lf)).v = h.v))) && (decide ((hd (B.map lf)).v = h.v))))) | 16 => T[23]? = some (gw (true && ((((!decide (A = B)) && (decide ((hd (A.map lf)).v = h.v))) && (decide ((hd (B.map lf)).v = h.v))) == true)) (.slice a n c)) | 17 => T[24]? = some (gw (true && ((((!decide (A = B)) && (decide ((hd (A.map lf)).v = h.v))) && (decide ((hd (B.map lf)).v = h.v))) == true)) (.slice a2 n c2)) | 18 => T[25]? = some (gw (true && ((((!decide (A = B)) && (decide ((hd (A.map lf)).v = h.v))) && (decide ((hd (B.map lf)).v = h.v))) == true)) (.bool true)) | 19 => T[26]? = some (gw true (.bool ((((!decide (A = B)) && (decide ((hd (A.map lf)).v = h.v))) && (decide ((hd (B.map lf)).v = h.v))) && true))) | 20 => T[6]? = some (gw true (.bool ((((!decide (A = B)) && (decide ((hd (A.map lf)).v = h.v))) && (decide ((hd (B.map lf)).v = h.v))) && true))) | _ => True) (fun (i : Nat) (T : Array Value) (v : World) => match i with | _ => True) (fun j T k => False) (fun i => match i with | 0 => [7] | 1 => [8] | 2 => [9] | 3 => [10] | 4 => [11] | 5 => [12] | 6 => [13] | 7 => [14] | 8 => [15] | 9 => [16] | 10 => [17] | 11 => [18] | 12 => [19] | 13 => [20] | 14 => [21] | 15 => [22] | 16 => [23] | 17 => [24] | 18 => [25] | 19 => [26] | 20 => [6] | _ => []) (fun _ => []) [1, 2, 3] (fun i j => false) (fun i => false) (by kernel_rfl) (by kernel_rfl) q2.z ⟨((((Rp.nil q2.z).cons (q2.a 3 rfl)).cons (q2.a 2 rfl)).cons (q2.a 1 rfl)), (Upd.refl _ _).drew20⟩ ?_ ?_ ?_ ?_ ?_ ?_
  · exact ⟨trivial, trivial, trivial, trivial, trivial, trivial, trivial, trivial, trivial, trivial, trivial, trivial, trivial, trivial, trivial, trivial, trivial, trivial, trivial, trivial, trivial, trivial⟩
  · intro j T T2 v v2 h _ hz hk hu
    exact ⟨h.1.ch hz hk, h.2.tr20 hu (fun k hk he => he.elim)⟩
  · refine ⟨?_, ?_, ?_, ?_, ?_, ?_, ?_, ?_, ?_, ?_, ?_, ?_, ?_, ?_, ?_, ?_, ?_, ?_, ?_, ?_, ?_, trivial⟩
    · exact fun j hj hu T T2 v v2 h hD hz hk zU => (hk 7 (List.mem_singleton.2 rfl)).trans h
    · exact fun j hj hu T T2 v v2 h hD hz hk zU => (hk 8 (List.mem_singleton.2 rfl)).trans h
    · exact fun j hj hu T T2 v v2 h hD hz hk zU => (hk 9 (List.mem_singleton.2 rfl)).trans h
    · exact fun j hj hu T T2 v v2 h hD hz hk zU => (hk 10 (List.mem_singleton.2 rfl)).trans h
    · exact fun j hj hu T T2 v v2 h hD hz hk zU => (hk 11 (List.mem_singleton.2 rfl)).trans h
    · exact fun j hj hu T T2 v v2 h hD hz hk zU => (hk 12 (List.mem_singleton.2 rfl)).trans h
    · exact fun j hj hu T T2 v v2 h hD hz hk zU => (hk 13 (List.mem_singleton.2 rfl)).trans h
    · exact fun j hj hu T T2 v v2 h hD hz hk zU => (hk 14 (List.mem_singleton.2 rfl)).trans h
    · exact fun j hj hu T T2 v v2 h hD hz hk zU => (hk 15 (List.mem_singleton.2 rfl)).trans h
    · exact fun j hj hu T T2 v v2 h hD hz hk zU => (hk 16 (List.mem_singleton.2 rfl)).trans h
    · exact fun j hj hu T T2 v v2 h hD hz hk zU => (hk 17 (List.mem_singleton.2 rfl)).trans h
    · exact fun j hj hu T T2 v v2 h hD hz hk zU => (hk 18 (List.mem_singleton.2 rfl)).trans h
    · exact fun j hj hu T T2 v v2 h hD hz hk zU => (hk 19 (List.mem_singleton.2 rfl)).trans h
    · exact fun j hj hu T T2 v v2 h hD hz hk zU => (hk 20 (List.mem_singleton.2 rfl)).trans h
    · exact fun j hj hu T T2 v v2 h hD hz hk zU => (hk 21 (List.mem_singleton.2 rfl)).trans h
    · exact fun j hj hu T T2 v v2 h hD hz hk zU => (hk 22 (List.mem_singleton.2 rfl)).trans h
    · exact fun j hj hu T T2 v v2 h hD hz hk zU => (hk 23 (List.mem_singleton.2 rfl)).trans h
    · exact fun j hj hu T T2 v v2 h hD hz hk zU => (hk 24 (List.mem_singleton.2 rfl)).trans h
    · exact fun j hj hu T T2 v v2 h hD hz hk zU => (hk 25 (List.mem_singleton.2 rfl)).trans h
    · exact fun j hj hu T T2 v v2 h hD hz hk zU => (hk 26 (List.mem_singleton.2 rfl)).trans h
    · exact fun j hj hu T T2 v v2 h hD hz hk zU => (hk 6 (List.mem_singleton.2 rfl)).trans h
  · refine ⟨fun _ _ _ _ _ _ _ _ _ _ _ => trivial, fun _ _ _ _ _ _ _ _ _ _ _ => trivial, fun _ _ _ _ _ _ _ _ _ _ _ => trivial, fun _ _ _ _ _ _ _ _ _ _ _ => trivial, fun _ _ _ _ _ _ _ _ _ _ _ => trivial, fun _ _ _ _ _ _ _ _ _ _ _ => trivial, fun _ _ _ _ _ _ _ _ _ _ _ => trivial, fun _ _ _ _ _ _ _ _ _ _ _ => trivial, fun _ _ _ _ _ _ _ _ _ _ _ => trivial, fun _ _ _ _ _ _ _ _ _ _ _ => trivial, fun _ _ _ _ _ _ _ _ _ _ _ => trivial, fun _ _ _ _ _ _ _ _ _ _ _ => trivial, fun _ _ _ _ _ _ _ _ _ _ _ => trivial, fun _ _ _ _ _ _ _ _ _ _ _ => trivial, fun _ _ _ _ _ _ _ _ _ _ _ => trivial, fun _ _ _ _ _ _ _ _ _ _ _ => trivial, fun _ _ _ _ _ _ _ _ _ _ _ => trivial, fun _ _ _ _ _ _ _ _ _ _ _ => trivial, fun _ _ _ _ _ _ _ _ _ _ _ => trivial, fun _ _ _ _ _ _ _ _ _ _ _ => trivial, fun _ _ _ _ _ _ _ _ _ _ _ => trivial, trivial⟩
  · refine ⟨?_, ?_, ?_, ?_, ?_, ?_, ?_, ?_, ?_, ?_, ?_, ?_, ?_, ?_, ?_, ?_, ?_, ?_, ?_, ?_, ?_, trivial⟩
    · intro T df v zz zB zp zC
      have qb := zB.1
      have zU := zB.2
      exact ⟨true, want_none rfl, fun _ => .inl ⟨_, _, ex_move rfl (qb.e (j := 1) rfl), Upd.refl _ _, fun h => absurd h (by decide), fun T2 N => N.s 7 rfl⟩, fun h => absurd h (by decide), fun h => absurd h (by decide)⟩
    · intro T df v zz zB zp zC
      have qb := zB.1
      have zU := zB.2
      exact ⟨true, want_none rfl, fun _ => .inl ⟨_, _, ex_move rfl (qb.e (j := 2) rfl), Upd.refl _ _, fun h => absurd h (by decide), fun T2 N => N.s 8 rfl⟩, fun h => absurd h (by decide), fun h => absurd h (by decide)⟩
    · intro T df v zz zB zp zC
      have qb := zB.1
      have zU := zB.2
      have zDw : Below w.heap.size w v := d2.trans (zU.below d2.size (fun k hk => hk.elim))
      have p0 : T[7]? = some (gw true (.slice a n c)) := zp 0 (by kernel_rfl) (by kernel_rfl)
      have p1 : T[8]? = some (gw true (.slice a2 n c2)) := zp 1 (by kernel_rfl) (by kernel_rfl)
      refine ⟨true, want_none rfl, fun hc => .inr (.inr ⟨_, _, _, ex_call rfl (by simp only [List.map_toArray, List.map_cons, List.map_nil, (ev p0 rfl), (ev p1 rfl), evc] <;> rfl) rfl, unlike20 _ _ _ _ _ _ _ v (hA.later zDw) (hB.later zDw) (by omega), ?_⟩), fun _ => rfl, fun h => absurd h (by decide)⟩
      rintro e w9 ⟨rfl, b9⟩
      exact ⟨_, rfl, Upd.of_below b9, fun h => absurd h (by decide), fun T2 N => N.s 9 rfl⟩
    · intro T df v zz zB zp zC
      have qb := zB.1
      have zU := zB.2
      have p2 : T[9]? = some (gw true (.bool (!decide (A = B)))) := zp 2 (by kernel_rfl) (by kernel_rfl)
      exact ⟨true, want_none rfl, fun _ => .inl ⟨_, _, ex_move rfl (ev p2 rfl), Upd.refl _ _, fun h => absurd h (by decide), fun T2 N => N.s 10 rfl⟩, fun h => absurd h (by decide), fun h => absurd h (by decide)⟩
    · intro T df v zz zB zp zC
      have qb := zB.1
      have zU := zB.2
      have p3 : T[10]? = some (gw true (.bool (!decide (A = B)))) := zp 3 (by kernel_rfl) (by kernel_rfl)
      exact ⟨(true && ((!decide (A = B)) == true)), want_g rfl rfl p3, fun hc => .inl ⟨_, _, ex_move rfl (qb.e (j := 1) rfl), Upd.refl _ _, fun h => absurd h (by decide), fun T2 N => by rw [hc]; exact N.s 11 rfl⟩, fun _ => rfl, fun hc T2 N => by rw [hc]; exact N.s 11 rfl⟩
    · intro T df v zz zB zp zC
      have qb := zB.1
      have zU := zB.2
      have zDw : Below w.heap.size w v := d2.trans (zU.below d2.size (fun k hk => hk.elim))
      have p3 : T[10]? = some (gw true (.bool (!decide (A = B)))) := zp 3 (by kernel_rfl) (by kernel_rfl)
      have p4 : T[11]? = some (gw (true && ((!decide (A = B)) == true)) (.slice a n c)) := zp 4 (by kernel_rfl) (by kernel_rfl)
      refine ⟨(true && ((!decide (A = B)) == true)), want_g rfl rfl p3, fun hc => .inr (.inr ⟨_, _, _, ex_call rfl (by simp only [List.map_toArray, List.map_cons, List.map_nil, (ev p4 hc), evc] <;> rfl) rfl, head20 _ _ _ _ v (hA.later zDw) (by omega) hvA, ?_⟩), fun _ => rfl, fun hc T2 N => by rw [hc]; exact N.s 12 rfl⟩
      rintro e w9 ⟨rfl, b9⟩
      exact ⟨_, rfl, Upd.of_below b9, fun h => absurd h (by decide), fun T2 N => by rw [hc]; exact N.s 12 rfl⟩
    · intro T df v zz zB zp zC
      have qb := zB.1
      have zU := zB.2
      have p3 : T[10]? = some (gw true (.bool (!decide (A = B)))) := zp 3 (by kernel_rfl) (by kernel_rfl)
      exact ⟨(true && ((!decide (A = B)) == true)), want_g rfl rfl p3, fun hc => .inl ⟨_, _, ex_ld rfl (qb.e (j := 3) rfl) (Bw1.upd zU (show ¬ False from id)).ldH, Upd.refl _ _, fun h => absurd h (by decide), fun T2 N => by rw [hc]; exact N.s 13 rfl⟩, fun _ => rfl, fun hc T2 N => by rw [hc]; exact N.s 13 rfl⟩
    · intro T df v zz zB zp zC
      have qb := zB.1
      have zU := zB.2
      have p3 : T[10]? = some (gw true (.bool (!decide (A = B)))) := zp 3 (by kernel_rfl) (by kernel_rfl)
      have p5 : T[12]? = some (gw (true && ((!decide (A = B)) == true)) ((hd (A.map lf)).val)) := zp 5 (by kernel_rfl) (by kernel_rfl)
      have p6 : T[13]? = some (gw (true && ((!decide (A = B)) == true)) (h.val)) := zp 6 (by kernel_rfl) (by kernel_rfl)
      exact ⟨(true && ((!decide (A = B)) == true)), want_g rfl rfl p3, fun hc => .inl ⟨_, _, ex_bin rfl (ev p5 hc) (ev p6 hc) (eqHZ _ _ _ _ _), Upd.refl _ _, fun h => absurd h (by decide), fun T2 N => by rw [hc]; exact N.s 14 rfl⟩, fun _ => rfl, fun hc T2 N => by rw [hc]; exact N.s 14 rfl⟩
    · intro T df v zz zB zp zC
      have qb := zB.1
      have zU := zB.2
      have p3 : T[10]? = some (gw true (.bool (!decide (A = B)))) := zp 3 (by kernel_rfl) (by kernel_rfl)
      have p7 : T[14]? = some (gw (true && ((!decide (A = B)) == true)) (.bool (decide ((hd (A.map lf)).v = h.v)))) := zp 7 (by kernel_rfl) (by kernel_rfl)
      exact ⟨true, want_none rfl, fun _ => .inl ⟨_, _, ex_and (c := true) (b := (!decide (A = B))) (z := (decide ((hd (A.map lf)).v = h.v))) rfl p3 p7 rfl, Upd.refl _ _, fun h => absurd h (by decide), fun T2 N => N.s 15 rfl⟩, fun h => absurd h (by decide), fun h => absurd h (by decide)⟩
    · intro T df v zz zB zp zC
      have qb := zB.1
      have zU := zB.2
      have p8 : T[15]? = some (gw true (.bool ((!decide (A = B)) && (decide ((hd (A.map lf)).v = h.v))))) := zp 8 (by kernel_rfl) (by kernel_rfl)
      exact ⟨true, want_none rfl, fun _ => .inl ⟨_, _, ex_move rfl (ev p8 rfl), Upd.refl _ _, fun h => absurd h (by decide), fun T2 N => N.s 16 rfl⟩, fun h => absurd h (by decide), fun h => absurd h (by decide)⟩
    · intro T df v zz zB zp zC
      have qb := zB.1
      have zU := zB.2
      have p9 : T[16]? = some (gw true (.bool ((!decide (A = B)) && (decide ((hd (A.map lf)).v = h.v))))) := zp 9 (by kernel_rfl) (by kernel_rfl)
      exact ⟨(true && (((!decide (A = B)) && (decide ((hd (A.map lf)).v = h.v))) == true)), want_g rfl rfl p9, fun hc => .inl ⟨_, _, ex_move rfl (qb.e (j := 2) rfl), Upd.refl _ _, fun h => absurd h (by decide), fun T2 N => by rw [hc]; exact N.s 17 rfl⟩, fun _ => rfl, fun hc T2 N => by rw [hc]; exact N.s 17 rfl⟩
    · intro T df v zz zB zp zC
      have qb := zB.1
      have zU := zB.2
      have zDw : Below w.heap.size w v := d2.trans (zU.below d2.size (fun k hk => hk.elim))
      have p9 : T[16]? = some (gw true (.bool ((!decide (A = B)) && (decide ((hd (A.map lf)).v = h.v))))) := zp 9 (by kernel_rfl) (by kernel_rfl)
      have p10 : T[17]? = some (gw (true && (((!decide (A = B)) && (decide ((hd (A.map lf)).v = h.v))) == true)) (.slice a2 n c2)) := zp 10 (by kernel_rfl) (by kernel_rfl)
      refine ⟨(true && (((!decide (A = B)) && (decide ((hd (A.map lf)).v = h.v))) == true)), want_g rfl rfl p9, fun hc => .inr (.inr ⟨_, _, _, ex_call rfl (by simp only [List.map_toArray, List.map_cons, List.map_nil, (ev p10 hc), evc] <;> rfl) rfl, head20 _ _ _ _ v (hB.later zDw) (by omega) hvB, ?_⟩), fun _ => rfl, fun hc T2 N => by rw [hc]; exact N.s 18 rfl⟩
      rintro e w9 ⟨rfl, b9⟩
      exact ⟨_, rfl, Upd.of_below b9, fun h => absurd h (by decide), fun T2 N => by rw [hc]; exact N.s 18 rfl⟩
    · intro T df v zz zB zp zC
      have qb := zB.1
      have zU := zB.2
      have p9 : T[16]? = some (gw true (.bool ((!decide (A = B)) && (decide ((hd (A.map lf)).v = h.v))))) := zp 9 (by kernel_rfl) (by kernel_rfl)
      exact ⟨(true && (((!decide (A = B)) && (decide ((hd (A.map lf)).v = h.v))) == true)), want_g rfl rfl p9, fun hc => .inl ⟨_, _, ex_ld rfl (qb.e (j := 3) rfl) (Bw1.upd zU (show ¬ False from id)).ldH, Upd.refl _ _, fun h => absurd h (by decide), fun T2 N => by rw [hc]; exact N.s 19 rfl⟩, fun _ => rfl, fun hc T2 N => by rw [hc]; exact N.s 19 rfl⟩
    · intro T df v zz zB zp zC
      have qb := zB.1
      have zU := zB.2
      have p9 : T[16]? = some (gw true (.bool ((!decide (A = B)) && (decide ((hd (A.map lf)).v = h.v))))) := zp 9 (by kernel_rfl) (by kernel_rfl)
      have p11 : T[18]? = some (gw (true && (((!decide (A = B)) && (decide ((hd (A.map lf)).v = h.v))) == true)) ((hd (B.map lf)).val)) := zp 11 (by kernel_rfl) (by kernel_rfl)
      have p12 : T[19]? = some (gw (true && (((!decide (A = B)) && (decide ((hd (A.map lf)).v = h.v))) == true)) (h.val)) := zp 12 (by kernel_rfl) (by kernel_rfl)
      exact ⟨(true && (((!decide (A = B)) && (decide ((hd (A.map lf)).v = h.v))) == true)), want_g rfl rfl p9, fun hc => .inl ⟨_, _, ex_bin rfl (ev p11 hc) (ev p12 hc) (eqHZ _ _ _ _ _), Upd.refl _ _, fun h => absurd h (by decide), fun T2 N => by rw [hc]; exact N.s 20 rfl⟩, fun _ => rfl, fun hc T2 N => by rw [hc]; exact N.s 20 rfl⟩
    · intro T df v zz zB zp zC
      have qb := zB.1
      have zU := zB.2
      have p9 : T[16]? = some (gw true (.bool ((!decide (A = B)) && (decide ((hd (A.map lf)).v = h.v))))) := zp 9 (by kernel_rfl) (by kernel_rfl)
      have p13 : T[20]? = some (gw (true && (((!decide (A = B)) && (decide ((hd (A.map lf)).v = h.v))) == true)) (.bool (decide ((hd (B.map lf)).v = h.v)))) := zp 13 (by kernel_rfl) (by kernel_rfl)
      exact ⟨true, want_none rfl, fun _ => .inl ⟨_, _, ex_and (c := true) (b := ((!decide (A = B)) && (decide ((hd (A.map lf)).v = h.v)))) (z := (decide ((hd (B.map lf)).v = h.v))) rfl p9 p13 rfl, Upd.refl _ _, fun h => absurd h (by decide), fun T2 N => N.s 21 rfl⟩, fun h => absurd h (by decide), fun h => absurd h (by decide)⟩
    · intro T df v zz zB zp zC
      have qb := zB.1
      have zU := zB.2
      have p14 : T[21]? = some (gw true (.bool (((!decide (A = B)) && (decide ((hd (A.map lf)).v = h.v))) && (decide ((hd (B.map lf)).v = h.v))))) := zp 14 (by kernel_rfl) (by kernel_rfl)
      exact ⟨true, want_none rfl, fun _ => .inl ⟨_, _, ex_move rfl (ev p14 rfl), Upd.refl _ _, fun h => absurd h (by decide), fun T2 N => N.s 22 rfl⟩, fun h => absurd h (by decide), fun h => absurd h (by decide)⟩
    · intro T df v zz zB zp zC
      have qb := zB.1
      have zU := zB.2
      have p15 : T[22]? = some (gw true (.bool (((!decide (A = B)) && (decide ((hd (A.map lf)).v = h.v))) && (decide ((hd (B.map lf)).v = h.v))))) := zp 15 (by kernel_rfl) (by kernel_rfl)
      exact ⟨(true && ((((!decide (A = B)) && (decide ((hd (A.map lf)).v = h.v))) && (decide ((hd (B.map lf)).v = h.v))) == true)), want_g rfl rfl p15, fun hc => .inl ⟨_, _, ex_move rfl (qb.e (j := 1) rfl), Upd.refl _ _, fun h => absurd h (by decide), fun T2 N => by rw [hc]; exact N.s 23 rfl⟩, fun _ => rfl, fun hc T2 N => by rw [hc]; exact N.s 23 rfl⟩
    · intro T df v zz zB zp zC
      have qb := zB.1
      have zU := zB.2
      have p15 : T[22]? = some (gw true (.bool (((!decide (A = B)) && (decide ((hd (A.map lf)).v = h.v))) && (decide ((hd (B.map lf)).v = h.v))))) := zp 15 (by kernel_rfl) (by kernel_rfl)
      exact ⟨(true && ((((!decide (A = B)) && (decide ((hd (A.map lf)).v = h.v))) && (decide ((hd (B.map lf)).v = h.v))) == true)), want_g rfl rfl p15, fun hc => .inl ⟨_, _, ex_move rfl (qb.e (j := 2) rfl), Upd.refl _ _, fun h => absurd h (by decide), fun T2 N => by rw [hc]; exact N.s 24 rfl⟩, fun _ => rfl, fun hc T2 N => by rw [hc]; exact N.s 24 rfl⟩
    · intro T df v zz zB zp zC
      have qb := zB.1
      have zU := zB.2
      have zDw : Below w.heap.size w v := d2.trans (zU.below d2.size (fun k hk => hk.elim))
      have p15 : T[22]? = some (gw true (.bool (((!decide (A = B)) && (decide ((hd (A.map lf)).v = h.v))) && (decide ((hd (B.map lf)).v = h.v))))) := zp 15 (by kernel_rfl) (by kernel_rfl)
      have p16 : T[23]? = some (gw (true && ((((!decide (A = B)) && (decide ((hd (A.map lf)).v = h.v))) && (decide ((hd (B.map lf)).v = h.v))) == true)) (.slice a n c)) := zp 16 (by kernel_rfl) (by kernel_rfl)
      have p17 : T[24]? = some (gw (true && ((((!decide (A = B)) && (decide ((hd (A.map lf)).v = h.v))) && (decide ((hd (B.map lf)).v = h.v))) == true)) (.slice a2 n c2)) := zp 17 (by kernel_rfl) (by kernel_rfl)
      refine ⟨(true && ((((!decide (A = B)) && (decide ((hd (A.map lf)).v = h.v))) && (decide ((hd (B.map lf)).v = h.v))) == true)), want_g rfl rfl p15, fun hc => .inr (.inr ⟨_, _, _, ex_call rfl (by simp only [List.map_toArray, List.map_cons, List.map_nil, (ev p16 hc), (ev p17 hc), evc] <;> rfl) rfl, clash20 _ _ _ _ _ _ _ v (hA.later zDw) (hB.later zDw) (mt_g hA.len hB.len hc).1 (by omega) (mt_g hA.len hB.len hc).2.1 (mt_g hA.len hB.len hc).2.2 hvA hvB, ?_⟩), fun _ => rfl, fun hc T2 N => by rw [hc]; exact N.s 25 rfl⟩
      rintro e w9 ⟨rfl, b9⟩
      exact ⟨_, rfl, Upd.of_below b9, fun h => absurd h (by decide), fun T2 N => by rw [hc]; exact N.s 25 rfl⟩
    · intro T df v zz zB zp zC
      have qb := zB.1
      have zU := zB.2
      have p15 : T[22]? = some (gw true (.bool (((!decide (A = B)) && (decide ((hd (A.map lf)).v = h.v))) && (decide ((hd (B.map lf)).v = h.v))))) := zp 15 (by kernel_rfl) (by kernel_rfl)
      have p18 : T[25]? = some (gw (true && ((((!decide (A = B)) && (decide ((hd (A.map lf)).v = h.v))) && (decide ((hd (B.map lf)).v = h.v))) == true)) (.bool true)) := zp 18 (by kernel_rfl) (by kernel_rfl)
      exact ⟨true, want_none rfl, fun _ => .inl ⟨_, _, ex_and (c := true) (b := (((!decide (A = B)) && (decide ((hd (A.map lf)).v = h.v))) && (decide ((hd (B.map lf)).v = h.v)))) (z := true) rfl p15 p18 rfl, Upd.refl _ _, fun h => absurd h (by decide), fun T2 N => N.s 26 rfl⟩, fun h => absurd h (by decide), fun h => absurd h (by decide)⟩
    · intro T df v zz zB zp zC
      have qb := zB.1
      have zU := zB.2
      have p19 : T[26]? = some (gw true (.bool ((((!decide (A = B)) && (decide ((hd (A.map lf)).v = h.v))) && (decide ((hd (B.map lf)).v = h.v))) && true))) := zp 19 (by kernel_rfl) (by kernel_rfl)
      exact ⟨true, want_none rfl, fun _ => .inl ⟨_, _, ex_assign rfl (ev p19 rfl), Upd.refl _ _, fun h => absurd h (by decide), fun T2 N => N.s 6 rfl⟩, fun h => absurd h (by decide), fun h => absurd h (by decide)⟩
  intro T v3 zz zB zq za
  have qb := zB.1
  have U4 := zB.2
  clear zB zz
  clear q2
  have d5 : Below w.heap.size w v3 := d2.trans (U4.below (Nat.le_trans d2.size (Nat.le_refl _)) (fun k hk => hk.elim))
  have zv3 := U4.size
  have p20 : T[6]? = some (gw true (.bool ((((!decide (A = B)) && (decide ((hd (A.map lf)).v = h.v))) && (decide ((hd (B.map lf)).v = h.v))) && true))) := zq 20 _ rfl (fun k => rfl)
  have q3 := (qb.cons p20)
  clear zq za qb p20
  go_wp2
  refine bodyPost_ret (results_tmp rfl _ _ _) rfl ?_
  rw [getD_of (q3.a 6 rfl)]
  exact ⟨by rw [← mt_eq]; rfl, d5⟩
end Go.Proofs.Ytfafhlahbhopaaa
namespace Go.Proofs.Ytfafhlahbhopaaa
open Go.RowKit Go.Maps
open Classical
set_option maxHeartbeats 2000000 in
theorem steps_eT (A B : List En) (n : Nat) (x : Hs) (P : List Hs) (k : Nat) (a : Option Addr) (c : Nat) (a2 : Option Addr) (c2 : Nat) (a3 : Option Addr) (c3 : Nat) (w : World) (hA : SlY yE w a n c A) (hB : SlY yE w a2 n c2 B) (hP : SlY yH w a3 k c3 P) (hn : n ≤ 1000000) (hvA : ∀ x ∈ A, x.o.v.size ≤ 140737488352232) (hvB : ∀ x ∈ B, x.o.v.size ≤ 140737488352232) :
    Calls Try.prog 35 #[.slice a n c, .slice a2 n c2, .bool true, x.val, .slice a3 k c3] w fun e w' => e = .returned (.tuple #[x.val, x.val, .bool (decide (MtP x A B))]) ∧ Below w.heap.size w w' := by
  go_enter Try.func35, Try.ntmps35
  go_upto_region 0 with fail
  refine wp_region_lit ?_
  refine vl_gen (fun T => Rp T 154 [(4, gw true (.slice a3 k c3)), (3, gw true (x.val)), (2, gw true (.bool true)), (1, gw true (.slice a2 n c2)), (0, gw true (.slice a n c))]) ((((((Rp.nil rfl).cons rfl).cons rfl).cons rfl).cons rfl).cons rfl) (fun Z0 q0 => ?_)
  obtain ⟨w1, hw1⟩ : ∃ y, y = w.alloc (.cells (x.cs).toArray 24) := ⟨_, rfl⟩
  refine vw (.pointer (some ⟨w.heap.size, 0, none⟩)) w1 (want_none rfl) (ex_box18 rfl (q0.e (j := 3) rfl) (by rw [hw1]; exact bxH20 _ _)) rfl q0.z (by decide) (q0.k fun _ q1 => ?_);clear q0
  have Bw1 : BB w1 w.heap.size 24 (x.cs) := by rw [hw1]; exact BB.new _ _ _
  have bw1 : Below w.heap.size w w1 := by rw [hw1]; exact (Below.refl _ _).alloc (Nat.le_refl _) _
  have zw1 : w1.heap.size = w.heap.size + 1 := by rw [hw1]; exact World.size_alloc _ _
  clear hw1
  have d2 : Below w.heap.size w w1 := bw1
  obtain ⟨w3, hw3⟩ : ∃ y, y = w1.alloc (.cells (zH.cs).toArray 24) := ⟨_, rfl⟩
  refine vw (.pointer (some ⟨w1.heap.size, 0, none⟩)) w3 (want_none rfl) (ex_al rfl (by rw [hw3]; exact alH _)) rfl q1.z (by decide) (q1.k fun _ q2 => ?_);clear q1
  have Bw3 : BB w3 w1.heap.size 24 (zH.cs) := by rw [hw3]; exact BB.new _ _ _
  have bw3 : Below w1.heap.size w1 w3 := by rw [hw3]; exact (Below.refl _ _).alloc (Nat.le_refl _) _
  have zw3 : w3.heap.size = w1.heap.size + 1 := by rw [hw3]; exact World.size_alloc _ _
  clear hw3
  have d4 : Below w.heap.size w w3 := d2.trans (bw3.mono d2.size)
  obtain ⟨w5, hw5⟩ : ∃ y, y = w3.alloc (.cells (zH.cs).toArray 24) := ⟨_, rfl⟩
  refine vw (.pointer (some ⟨w3.heap.size, 0, none⟩)) w5 (want_none rfl) (ex_al rfl (by rw [hw5]; exact alH _)) rfl q2.z (by decide) (q2.k fun _ q3 => ?_);clear q2
  have Bw5 : BB w5 w3.heap.size 24 (zH.cs) := by rw [hw5]; exact BB.new _ _ _
  have bw5 : Below w3.heap.size w3 w5 := by rw [hw5]; exact (Below.refl _ _).alloc (Nat.le_refl _) _
  have zw5 : w5.heap.size = w3.heap.size + 1 := by rw [hw5]; exact World.size_alloc _ _
  clear hw5
  have d6 : Below w.heap.size w w5 := d4.trans (bw5.mono d4.size)
  refine q3.t (.bool false) (ex_assign rfl rfl) fun _ q4 => ?_;clear q3
  refine wpList_nil ?_
  go_upto_region 1 with fail
  refine wp_region_lit ?_
  refine q4.t (.slice a n c) (ex_move rfl (q4.e (j := 0) rfl)) fun _ q5 => ?_;clear q4
  refine q5.t (.int .i64 ((n : Nat) : Int)) (ex_lenG rfl rfl Try.underlying22 (q5.e (j := 24) rfl)) fun _ q6 => ?_;clear q5
  refine q6.t (.slice a2 n c2) (ex_move rfl (q6.e (j := 1) rfl)) fun _ q7 => ?_;clear q6
  refine q7.t (.int .i64 ((n : Nat) : Int)) (ex_lenG rfl rfl Try.underlying22 (q7.e (j := 26) rfl)) fun _ q8 => ?_;clear q7
  refine q8.t (.bool true) (ex_bin rfl (q8.e (j := 25) rfl) (q8.e (j := 27) rfl) (eqT20 _ _ (by omega) _)) fun _ q9 => ?_;clear q8
  refine wpList_nil ?_
  go_upto_region 2 with fail
  refine wp_cond_true (q9.e (j := 28) rfl) ?_
  go_upto_region 2 with fail
  refine wp_region_lit ?_
  refine q9.t (.bool true) (ex_move rfl (q9.e (j := 2) rfl)) fun _ q10 => ?_;clear q9
  refine wpList_nil ?_
  go_upto_region 3 with fail
  refine wp_cond_true (q10.e (j := 29) rfl) ?_
  go_upto_region 3 with fail
  have B7 : BB w5 w.heap.size 24 (x.cs) := ((Bw1.later bw3).later bw5)
  have B8 : BB w5 w1.heap.size 24 (zH.cs) := (Bw3.later bw5)
  refine vp_start 154 (fun T v => Rp T 154 [(0, gw true (.slice a n c)), (1, gw true (.slice a2 n c2)), (2, gw true (.bool true)), (4, gw true (.slice a3 k c3)), (8, gw true (.pointer (some ⟨w.heap.size, 0, none⟩))), (10, gw true (.pointer (some ⟨w1.heap.size, 0, none⟩))), (11, gw true (.pointer (some ⟨w3.heap.size, 0, none⟩))), (28, gw true (.bool true)), (29, gw true (.bool true))] ∧ Upd (fun k => k = w1.heap.size ∨ k = w3.heap.size) w5 v) (fun (i : Nat) (T : Array Value) (v : World) => match i with | 0 => T[30]? = some (gw true (x.val)) | 1 => T[31]? = some (gw true (x.val)) | 2 => T[32]? = some (gw true (x.val)) | 3 => T[33]? = some (gw true (.slice a n c)) | 4 => T[34]? = some (gw true (.slice a2 n c2)) | 5 => T[35]? = some (gw true (.bool (decide (MtP x A B)))) | 6 => BB v w1.heap.size 24 (x.cs) | 7 => BB v w3.heap.size 24 (x.cs) | 8 => T[12]? = some (gw true (.bool (decide (MtP x A B)))) | _ => True) (fun (i : Nat) (T : Array Value) (v : World) => match i with | 6 => BB v w1.heap.size 24 (zH.cs) | 7 => BB v w3.heap.size 24 (zH.cs) | _ => True) (fun j T k => (j = 6 ∧ k = w1.heap.size) ∨ (j = 7 ∧ k = w3.heap.size)) (fun i => match i with | 0 => [30] | 1 => [31] | 2 => [32] | 3 => [33] | 4 => [34] | 5 => [35] | 6 => [] | 7 => [] | 8 => [12] | _ => []) (fun _ => []) [0, 1, 2, 4, 8, 10, 11, 28, 29] (fun i j => false) (fun i => false) (by kernel_rfl) (by kernel_rfl) q10.z ⟨((((((((((Rp.nil q10.z).cons (q10.a 29 rfl)).cons (q10.a 28 rfl)).cons (q10.a 11 rfl)).cons (q10.a 10 rfl)).cons (q10.a 8 rfl)).cons (q10.a 4 rfl)).cons (q10.a 2 rfl)).cons (q10.a 1 rfl)).cons (q10.a 0 rfl)), (Upd.refl _ _).drew20⟩ ?_ ?_ ?_ ?_ ?_ ?_
  · exact ⟨trivial, trivial, trivial, trivial, trivial, trivial, B8.later (Below.refl _ _).drew, Bw5.later (Below.refl _ _).drew, trivial, trivial⟩
  · intro j T T2 v v2 h _ hz hk hu
    exact ⟨h.1.ch hz hk, h.2.tr20 hu (fun k hk he => by have he2 : (j = 6 ∧ k = w1.heap.size) ∨ (j = 7 ∧ k = w3.heap.size) := he; show k = w1.heap.size ∨ k = w3.heap.size; omega)⟩
  · refine ⟨?_, ?_, ?_, ?_, ?_, ?_, ?_, ?_, ?_, trivial⟩
    · exact fun j hj hu T T2 v v2 h hD hz hk zU => (hk 30 (List.mem_singleton.2 rfl)).trans h
    · exact fun j hj hu T T2 v v2 h hD hz hk zU => (hk 31 (List.mem_singleton.2 rfl)).trans h
    · exact fun j hj hu T T2 v v2 h hD hz hk zU => (hk 32 (List.mem_singleton.2 rfl)).trans h
    · exact fun j hj hu T T2 v v2 h hD hz hk zU => (hk 33 (List.mem_singleton.2 rfl)).trans h
    · exact fun j hj hu T T2 v v2 h hD hz hk zU => (hk 34 (List.mem_singleton.2 rfl)).trans h
    · exact fun j hj hu T T2 v v2 h hD hz hk zU => (hk 35 (List.mem_singleton.2 rfl)).trans h
    · intro j hj hu T T2 v v2 h hD hz hk zU
      exact BB.upd h zU (fun he => by have he2 : (j = 6 ∧ w1.heap.size = w1.heap.size) ∨ (j = 7 ∧ w1.heap.size = w3.heap.size) := he; omega)
    · intro j hj hu T T2 v v2 h hD hz hk zU
      exact BB.upd h zU (fun he => by have he2 : (j = 6 ∧ w3.heap.size = w1.heap.size) ∨ (j = 7 ∧ w3.heap.size = w3.heap.size) := he; omega)
    · exact fun j hj hu T T2 v v2 h hD hz hk zU => (hk 12 (List.mem_singleton.2 rfl)).trans h
  · refine ⟨fun _ _ _ _ _ _ _ _ _ _ _ => trivial, fun _ _ _ _ _ _ _ _ _ _ _ => trivial, fun _ _ _ _ _ _ _ _ _ _ _ => trivial, fun _ _ _ _ _ _ _ _ _ _ _ => trivial, fun _ _ _ _ _ _ _ _ _ _ _ => trivial, fun _ _ _ _ _ _ _ _ _ _ _ => trivial, ?_, ?_, fun _ _ _ _ _ _ _ _ _ _ _ => trivial, trivial⟩
    · exact fun j hj T T2 v v2 h _ hz hk zU => BB.upd h zU (fun he => by have he2 : (j = 6 ∧ w1.heap.size = w1.heap.size) ∨ (j = 7 ∧ w1.heap.size = w3.heap.size) := he; omega)
    · exact fun j hj T T2 v v2 h _ hz hk zU => BB.upd h zU (fun he => by have he2 : (j = 6 ∧ w3.heap.size = w1.heap.size) ∨ (j = 7 ∧ w3.heap.size = w3.heap.size) := he; omega)
  · refine ⟨?_, ?_, ?_, ?_, ?_, ?_, ?_, ?_, ?_, trivial⟩
    · intro T df v zz zB zp zC
      have qb := zB.1
      have zU := zB.2
      exact ⟨true, want_none rfl, fun _ => .inl ⟨_, _, ex_ld rfl (qb.e (j := 8) rfl) (B7.upd zU (show ¬ (w.heap.size = w1.heap.size ∨ w.heap.size = w3.heap.size) by omega)).ldH, Upd.refl _ _, fun h => absurd h (by decide), fun T2 N => N.s 30 rfl⟩, fun h => absurd h (by decide), fun h => absurd h (by decide)⟩
    · intro T df v zz zB zp zC
      have qb := zB.1
      have zU := zB.2
      exact ⟨true, want_none rfl, fun _ => .inl ⟨_, _, ex_ld rfl (qb.e (j := 8) rfl) (B7.upd zU (show ¬ (w.heap.size = w1.heap.size ∨ w.heap.size = w3.heap.size) by omega)).ldH, Upd.refl _ _, fun h => absurd h (by decide), fun T2 N => N.s 31 rfl⟩, fun h => absurd h (by decide), fun h => absurd h (by decide)⟩
    · intro T df v zz zB zp zC
      have qb := zB.1
      have zU := zB.2
      exact ⟨true, want_none rfl, fun _ => .inl ⟨_, _, ex_ld rfl (qb.e (j := 8) rfl) (B7.upd zU (show ¬ (w.heap.size = w1.heap.size ∨ w.heap.size = w3.heap.size) by omega)).ldH, Upd.refl _ _, fun h => absurd h (by decide), fun T2 N => N.s 32 rfl⟩, fun h => absurd h (by decide), fun h => absurd h (by decide)⟩
    · intro T df v zz zB zp zC
      have qb := zB.1
      have zU := zB.2
      exact ⟨true, want_none rfl, fun _ => .inl ⟨_, _, ex_move rfl (qb.e (j := 0) rfl), Upd.refl _ _, fun h => absurd h (by decide), fun T2 N => N.s 33 rfl⟩, fun h => absurd h (by decide), fun h => absurd h (by decide)⟩
    · intro T df v zz zB zp zC
      have qb := zB.1
      have zU := zB.2
      exact ⟨true, want_none rfl, fun _ => .inl ⟨_, _, ex_move rfl (qb.e (j := 1) rfl), Upd.refl _ _, fun h => absurd h (by decide), fun T2 N => N.s 34 rfl⟩, fun h => absurd h (by decide), fun h => absurd h (by decide)⟩
    · intro T df v zz zB zp zC
      have qb := zB.1
      have zU := zB.2
      have zDw : Below w.heap.size w v := d6.trans (zU.below d6.size (fun k hk => by have hk2 : k = w1.heap.size ∨ k = w3.heap.size := hk; omega))
      have p2 : T[32]? = some (gw true (x.val)) := zp 2 (by kernel_rfl) (by kernel_rfl)
      have p3 : T[33]? = some (gw true (.slice a n c)) := zp 3 (by kernel_rfl) (by kernel_rfl)
      have p4 : T[34]? = some (gw true (.slice a2 n c2)) := zp 4 (by kernel_rfl) (by kernel_rfl)
      refine ⟨true, want_none rfl, fun hc => .inr (.inr ⟨_, _, _, ex_call rfl (by simp only [List.map_toArray, List.map_cons, List.map_nil, (ev p2 rfl), (ev p3 rfl), (ev p4 rfl), evc] <;> rfl) rfl, met20 x _ _ _ _ _ _ _ v (hA.later zDw) (hB.later zDw) (by omega) hvA hvB, ?_⟩), fun _ => rfl, fun h => absurd h (by decide)⟩
      rintro e w9 ⟨rfl, b9⟩
      exact ⟨_, rfl, Upd.of_below b9, fun h => absurd h (by decide), fun T2 N => N.s 35 rfl⟩
    · intro T df v zz zB zp zC
      have qb := zB.1
      have zU := zB.2
      have p0 : T[30]? = some (gw true (x.val)) := zp 0 (by kernel_rfl) (by kernel_rfl)
      have hq : BB v w1.heap.size 24 (zH.cs) := zC 6 _ rfl (.inl rfl)
      exact ⟨_, want_none rfl, fun _ => .inr (.inl ⟨_, ex_st rfl (qb.e (j := 10) rfl) (ev p0 rfl) (hq.stH rfl _), (upd18 _ _ _ _).sub20 (fun k hk => by have hk2 : k = w1.heap.size := hk; show (6 = 6 ∧ k = w1.heap.size) ∨ (6 = 7 ∧ k = w3.heap.size); omega), fun h => absurd h (by decide), fun T2 N => hq.putH rfl _⟩), fun h => absurd h (by decide), fun h => absurd h (by decide)⟩
    · intro T df v zz zB zp zC
      have qb := zB.1
      have zU := zB.2
      have p1 : T[31]? = some (gw true (x.val)) := zp 1 (by kernel_rfl) (by kernel_rfl)
      have hq : BB v w3.heap.size 24 (zH.cs) := zC 7 _ rfl (.inl rfl)
      exact ⟨_, want_none rfl, fun _ => .inr (.inl ⟨_, ex_st rfl (qb.e (j := 11) rfl) (ev p1 rfl) (hq.stH rfl _), (upd18 _ _ _ _).sub20 (fun k hk => by have hk2 : k = w3.heap.size := hk; show (7 = 6 ∧ k = w1.heap.size) ∨ (7 = 7 ∧ k = w3.heap.size); omega), fun h => absurd h (by decide), fun T2 N => hq.putH rfl _⟩), fun h => absurd h (by decide), fun h => absurd h (by decide)⟩
    · intro T df v zz zB zp zC
      have qb := zB.1
      have zU := zB.2
      have p5 : T[35]? = some (gw true (.bool (decide (MtP x A B)))) := zp 5 (by kernel_rfl) (by kernel_rfl)
      exact ⟨true, want_none rfl, fun _ => .inl ⟨_, _, ex_assign rfl (ev p5 rfl), Upd.refl _ _, fun h => absurd h (by decide), fun T2 N => N.s 12 rfl⟩, fun h => absurd h (by decide), fun h => absurd h (by decide)⟩
  intro T v9 zz zB zq za
  have qb := zB.1
  have U10 := zB.2
  clear zB zz
  clear q10
  have d11 : Below w.heap.size w v9 := d6.trans (U10.below (Nat.le_trans d6.size (Nat.le_refl _)) (fun k hk => by have hk2 : k = w1.heap.size ∨ k = w3.heap.size := hk; omega))
  have zv9 := U10.size
  have B12 : BB v9 w1.heap.size 24 (x.cs) := zq 6 _ rfl (fun k => rfl)
  have B13 : BB v9 w3.heap.size 24 (x.cs) := zq 7 _ rfl (fun k => rfl)
  have p8 : T[12]? = some (gw true (.bool (decide (MtP x A B)))) := zq 8 _ rfl (fun k => rfl)
  have q11 := (qb.cons p8)
  clear zq za qb p8
  go_wp2
  exact bodyPost_ret (resHHT20 rfl (q11.a 10 rfl) (q11.a 11 rfl) (q11.a 12 rfl) B12 B13) rfl ⟨rfl, d11⟩
set_option maxHeartbeats 2000000 in
theorem steps_eF (A B : List En) (n : Nat) (x y0 : Hs) (P : List Hs) (k : Nat) (hy0 : P[0]? = some y0) (hk : 1 ≤ k) (a : Option Addr) (c : Nat) (a2 : Option Addr) (c2 : Nat) (a3 : Option Addr) (c3 : Nat) (w : World) (hA : SlY yE w a n c A) (hB : SlY yE w a2 n c2 B) (hP : SlY yH w a3 k c3 P) (hn : n ≤ 1000000) (hvA : ∀ x ∈ A, x.o.v.size ≤ 140737488352232) (hvB : ∀ x ∈ B, x.o.v.size ≤ 140737488352232) :
    Calls Try.prog 35 #[.slice a n c, .slice a2 n c2, .bool false, x.val, .slice a3 k c3] w fun e w' => e = .returned (.tuple #[y0.val, y0.val, .bool (decide (MtP y0 A B))]) ∧ Below w.heap.size w w' := by
  go_enter Try.func35, Try.ntmps35
  go_upto_region 0 with fail
  refine wp_region_lit ?_
  refine vl_gen (fun T => Rp T 154 [(4, gw true (.slice a3 k c3)), (3, gw true (x.val)), (2, gw true (.bool false)), (1, gw true (.slice a2 n c2)), (0, gw true (.slice a n c))]) ((((((Rp.nil rfl).cons rfl).cons rfl).cons rfl).cons rfl).cons rfl) (fun Z0 q0 => ?_)
  obtain ⟨w1, hw1⟩ : ∃ y, y = w.alloc (.cells (x.cs).toArray 24) := ⟨_, rfl⟩
  refine vw (.pointer (some ⟨w.heap.size, 0, none⟩)) w1 (want_none rfl) (ex_box18 rfl (q0.e (j := 3) rfl) (by rw [hw1]; exact bxH20 _ _)) rfl q0.z (by decide) (q0.k fun _ q1 => ?_);clear q0
  have Bw1 : BB w1 w.heap.size 24 (x.cs) := by rw [hw1]; exact BB.new _ _ _
  have bw1 : Below w.heap.size w w1 := by rw [hw1]; exact (Below.refl _ _).alloc (Nat.le_refl _) _
  have zw1 : w1.heap.size = w.heap.size + 1 := by rw [hw1]; exact World.size_alloc _ _
  clear hw1
  have d2 : Below w.heap.size w w1 := bw1
  obtain ⟨w3, hw3⟩ : ∃ y, y = w1.alloc (.cells (zH.cs).toArray 24) := ⟨_, rfl⟩
  refine vw (.pointer (some ⟨w1.heap.size, 0, none⟩)) w3 (want_none rfl) (ex_al rfl (by rw [hw3]; exact alH _)) rfl q1.z (by decide) (q1.k fun _ q2 => ?_);clear q1
  have Bw3 : BB w3 w1.heap.size 24 (zH.cs) := by rw [hw3]; exact BB.new _ _ _
  have bw3 : Below w1.heap.size w1 w3 := by rw [hw3]; exact (Below.refl _ _).alloc (Nat.le_refl _) _
  have zw3 : w3.heap.size = w1.heap.size + 1 := by rw [hw3]; exact World.size_alloc _ _
  clear hw3
  have d4 : Below w.heap.size w w3 := d2.trans (bw3.mono d2.size)
  obtain ⟨w5, hw5⟩ : ∃ y, y = w3.alloc (.cells (zH.cs).toArray 24) := ⟨_, rfl⟩
  refine vw (.pointer (some ⟨w3.heap.size, 0, none⟩)) w5 (want_none rfl) (ex_al rfl (by rw [hw5]; exact alH _)) rfl q2.z (by decide) (q2.k fun _ q3 => ?_);clear q2
  have Bw5 : BB w5 w3.heap.size 24 (zH.cs) := by rw [hw5]; exact BB.new _ _ _
  have bw5 : Below w3.heap.size w3 w5 := by rw [hw5]; exact (Below.refl _ _).alloc (Nat.le_refl _) _
  have zw5 : w5.heap.size = w3.heap.size + 1 := by rw [hw5]; exact World.size_alloc _ _
  clear hw5
  have d6 : Below w.heap.size w w5 := d4.trans (bw5.mono d4.size)
  refine q3.t (.bool false) (ex_assign rfl rfl) fun _ q4 => ?_;clear q3
  refine wpList_nil ?_
  go_upto_region 1 with fail
  refine wp_region_lit ?_
  refine q4.t (.slice a n c) (ex_move rfl (q4.e (j := 0) rfl)) fun _ q5 => ?_;clear q4
  refine q5.t (.int .i64 ((n : Nat) : Int)) (ex_lenG rfl rfl Try.underlying22 (q5.e (j := 24) rfl)) fun _ q6 => ?_;clear q5
  refine q6.t (.slice a2 n c2) (ex_move rfl (q6.e (j := 1) rfl)) fun _ q7 => ?_;clear q6
  refine q7.t (.int .i64 ((n : Nat) : Int)) (ex_lenG rfl rfl Try.underlying22 (q7.e (j := 26) rfl)) fun _ q8 => ?_;clear q7
  refine q8.t (.bool true) (ex_bin rfl (q8.e (j := 25) rfl) (q8.e (j := 27) rfl) (eqT20 _ _ (by omega) _)) fun _ q9 => ?_;clear q8
  refine wpList_nil ?_
  go_upto_region 2 with fail
  refine wp_cond_true (q9.e (j := 28) rfl) ?_
  go_upto_region 2 with fail
  refine wp_region_lit ?_
  refine q9.t (.bool false) (ex_move rfl (q9.e (j := 2) rfl)) fun _ q10 => ?_;clear q9
  refine wpList_nil ?_
  go_upto_region 4 with fail
  refine wp_cond_false (q10.e (j := 29) rfl) ?_
  obtain ⟨kq7, ko8, rfl, hkq7, lkq7⟩ := hP.place (by rintro rfl; simp at hy0)
  have ckq7 := hP.cap
  go_upto_region 4 with fail
  have B9 : BB w5 w1.heap.size 24 (zH.cs) := (Bw3.later bw5)
  refine vp_start 154 (fun T v => Rp T 154 [(0, gw true (.slice a n c)), (1, gw true (.slice a2 n c2)), (2, gw true (.bool false)), (4, gw true (.slice (some ⟨kq7, ko8, none⟩) k c3)), (8, gw true (.pointer (some ⟨w.heap.size, 0, none⟩))), (10, gw true (.pointer (some ⟨w1.heap.size, 0, none⟩))), (11, gw true (.pointer (some ⟨w3.heap.size, 0, none⟩))), (28, gw true (.bool true)), (29, gw true (.bool false))] ∧ Upd (fun k => k = w1.heap.size ∨ k = w3.heap.size) w5 v) (fun (i : Nat) (T : Array Value) (v : World) => match i with | 0 => T[36]? = some (gw true (.slice (some ⟨kq7, ko8, none⟩) k c3)) | 1 => T[37]? = some (gw true (.pointer (some ⟨kq7, ko8 + 0 * 32, none⟩))) | 2 => T[38]? = some (gw true (y0.val)) | 3 => T[39]? = some (gw true (.slice (some ⟨kq7, ko8, none⟩) k c3)) | 4 => T[40]? = some (gw true (.pointer (some ⟨kq7, ko8 + 0 * 32, none⟩))) | 5 => T[41]? = some (gw true (y0.val)) | 6 => T[42]? = some (gw true (.slice (some ⟨kq7, ko8, none⟩) k c3)) | 7 => T[43]? = some (gw true (.pointer (some ⟨kq7, ko8 + 0 * 32, none⟩))) | 8 => T[44]? = some (gw true (y0.val)) | 9 => T[45]? = some (gw true (.slice a n c)) | 10 => T[46]? = some (gw true (.slice a2 n c2)) | 11 => T[47]? = some (gw true (.bool (decide (MtP y0 A B)))) | 12 => BB v w1.heap.size 24 (y0.cs) | 13 => BB v w3.heap.size 24 (y0.cs) | 14 => T[12]? = some (gw true (.bool (decide (MtP y0 A B)))) | _ => True) (fun (i : Nat) (T : Array Value) (v : World) => match i with | 12 => BB v w1.heap.size 24 (zH.cs) | 13 => BB v w3.heap.size 24 (zH.cs) | _ => True) (fun j T k => (j = 12 ∧ k = w1.heap.size) ∨ (j = 13 ∧ k = w3.heap.size)) (fun i => match i with | 0 => [36] | 1 => [37] | 2 => [38] | 3 => [39] | 4 => [40] | 5 => [41] | 6 => [42] | 7 => [43] | 8 => [44] | 9 => [45] | 10 => [46] | 11 => [47] | 12 => [] | 13 => [] | 14 => [12] | _ => []) (fun _ => []) [0, 1, 2, 4, 8, 10, 11, 28, 29] (fun i j => false) (fun i => false) (by kernel_rfl) (by kernel_rfl) q10.z ⟨((((((((((Rp.nil q10.z).cons (q10.a 29 rfl)).cons (q10.a 28 rfl)).cons (q10.a 11 rfl)).cons (q10.a 10 rfl)).cons (q10.a 8 rfl)).cons (q10.a 4 rfl)).cons (q10.a 2 rfl)).cons (q10.a 1 rfl)).cons (q10.a 0 rfl)), (Upd.refl _ _).drew20⟩ ?_ ?_ ?_ ?_ ?_ ?_
  · exact ⟨trivial, trivial, trivial, trivial, trivial, trivial, trivial, trivial, trivial, trivial, trivial, trivial, B9.later (Below.refl _ _).drew, Bw5.later (Below.refl _ _).drew, trivial, trivial⟩
  · intro j T T2 v v2 h _ hz hk hu
    exact ⟨h.1.ch hz hk, h.2.tr20 hu (fun k hk he => by have he2 : (j = 12 ∧ k = w1.heap.size) ∨ (j = 13 ∧ k = w3.heap.size) := he; show k = w1.heap.size ∨ k = w3.heap.size; omega)⟩
  · refine ⟨?_, ?_, ?_, ?_, ?_, ?_, ?_, ?_, ?_, ?_, ?_, ?_, ?_, ?_, ?_, trivial⟩
    · exact fun j hj hu T T2 v v2 h hD hz hk zU => (hk 36 (List.mem_singleton.2 rfl)).trans h
    · exact fun j hj hu T T2 v v2 h hD hz hk zU => (hk 37 (List.mem_singleton.2 rfl)).trans h
    · exact fun j hj hu T T2 v v2 h hD hz hk zU => (hk 38 (List.mem_singleton.2 rfl)).trans h
    · exact fun j hj hu T T2 v v2 h hD hz hk zU => (hk 39 (List.mem_singleton.2 rfl)).trans h
    · exact fun j hj hu T T2 v v2 h hD hz hk zU => (hk 40 (List.mem_singleton.2 rfl)).trans h
    · exact fun j hj hu T T2 v v2 h hD hz hk zU => (hk 41 (List.mem_singleton.2 rfl)).trans h
    · exact fun j hj hu T T2 v v2 h hD hz hk zU => (hk 42 (List.mem_singleton.2 rfl)).trans h
    · exact fun j hj hu T T2 v v2 h hD hz hk zU => (hk 43 (List.mem_singleton.2 rfl)).trans h
    · exact fun j hj hu T T2 v v2 h hD hz hk zU => (hk 44 (List.mem_singleton.2 rfl)).trans h
    · exact fun j hj hu T T2 v v2 h hD hz hk zU => (hk 45 (List.mem_singleton.2 rfl)).trans h
    · exact fun j hj hu T T2 v v2 h hD hz hk zU => (hk 46 (List.mem_singleton.2 rfl)).trans h
    · exact fun j hj hu T T2 v v2 h hD hz hk zU => (hk 47 (List.mem_singleton.2 rfl)).trans h
    · intro j hj hu T T2 v v2 h hD hz hk zU
      exact BB.upd h zU (fun he => by have he2 : (j = 12 ∧ w1.heap.size = w1.heap.size) ∨ (j = 13 ∧ w1.heap.size = w3.heap.size) := he; omega)
    · intro j hj hu T T2 v v2 h hD hz hk zU
      exact BB.upd h zU (fun he => by have he2 : (j = 12 ∧ w3.heap.size = w1.heap.size) ∨ (j = 13 ∧ w3.heap.size = w3.heap.size) := he; omega)
    · exact fun j hj hu T T2 v v2 h hD hz hk zU => (hk 12 (List.mem_singleton.2 rfl)).trans h
  · refine ⟨fun _ _ _ _ _ _ _ _ _ _ _ => trivial, fun _ _ _ _ _ _ _ _ _ _ _ => trivial, fun _ _ _ _ _ _ _ _ _ _ _ => trivial, fun _ _ _ _ _ _ _ _ _ _ _ => trivial, fun _ _ _ _ _ _ _ _ _ _ _ => trivial, fun _ _ _ _ _ _ _ _ _ _ _ => trivial, fun _ _ _ _ _ _ _ _ _ _ _ => trivial, fun _ _ _ _ _ _ _ _ _ _ _ => trivial, fun _ _ _ _ _ _ _ _ _ _ _ => trivial, fun _ _ _ _ _ _ _ _ _ _ _ => trivial, fun _ _ _ _ _ _ _ _ _ _ _ => trivial, fun _ _ _ _ _ _ _ _ _ _ _ => trivial, ?_, ?_, fun _ _ _ _ _ _ _ _ _ _ _ => trivial, trivial⟩
    · exact fun j hj T T2 v v2 h _ hz hk zU => BB.upd h zU (fun he => by have he2 : (j = 12 ∧ w1.heap.size = w1.heap.size) ∨ (j = 13 ∧ w1.heap.size = w3.heap.size) := he; omega)
    · exact fun j hj T T2 v v2 h _ hz hk zU => BB.upd h zU (fun he => by have he2 : (j = 12 ∧ w3.heap.size = w1.heap.size) ∨ (j = 13 ∧ w3.heap.size = w3.heap.size) := he; omega)
  · refine ⟨?_, ?_, ?_, ?_, ?_, ?_, ?_, ?_, ?_, ?_, ?_, ?_, ?_, ?_, ?_, trivial⟩
    · intro T df v zz zB zp zC
      have qb := zB.1
      have zU := zB.2
      exact ⟨true, want_none rfl, fun _ => .inl ⟨_, _, ex_move rfl (qb.e (j := 4) rfl), Upd.refl _ _, fun h => absurd h (by decide), fun T2 N => N.s 36 rfl⟩, fun h => absurd h (by decide), fun h => absurd h (by decide)⟩
    · intro T df v zz zB zp zC
      have qb := zB.1
      have zU := zB.2
      have p0 : T[36]? = some (gw true (.slice (some ⟨kq7, ko8, none⟩) k c3)) := zp 0 (by kernel_rfl) (by kernel_rfl)
      exact ⟨true, want_none rfl, fun _ => .inl ⟨_, _, ex_ix (Y := .int .i64 ((0 : Nat) : Int)) rfl (ev p0 rfl) rfl (ixH kq7 ko8 k c3 0 (by omega) _), Upd.refl _ _, fun h => absurd h (by decide), fun T2 N => N.s 37 rfl⟩, fun h => absurd h (by decide), fun h => absurd h (by decide)⟩
    · intro T df v zz zB zp zC
      have qb := zB.1
      have zU := zB.2
      have zDw : Below w.heap.size w v := d6.trans (zU.below d6.size (fun k hk => by have hk2 : k = w1.heap.size ∨ k = w3.heap.size := hk; omega))
      have p1 : T[37]? = some (gw true (.pointer (some ⟨kq7, ko8 + 0 * 32, none⟩))) := zp 1 (by kernel_rfl) (by kernel_rfl)
      exact ⟨true, want_none rfl, fun _ => .inl ⟨_, _, ex_ld rfl (ev p1 rfl) (ldH20 (lkq7.upd (S := fun _ => False) (Upd.of_below zDw) hkq7 id) hy0), Upd.refl _ _, fun h => absurd h (by decide), fun T2 N => N.s 38 rfl⟩, fun h => absurd h (by decide), fun h => absurd h (by decide)⟩
    · intro T df v zz zB zp zC
      have qb := zB.1
      have zU := zB.2
      exact ⟨true, want_none rfl, fun _ => .inl ⟨_, _, ex_move rfl (qb.e (j := 4) rfl), Upd.refl _ _, fun h => absurd h (by decide), fun T2 N => N.s 39 rfl⟩, fun h => absurd h (by decide), fun h => absurd h (by decide)⟩
    · intro T df v zz zB zp zC
      have qb := zB.1
      have zU := zB.2
      have p3 : T[39]? = some (gw true (.slice (some ⟨kq7, ko8, none⟩) k c3)) := zp 3 (by kernel_rfl) (by kernel_rfl)
      exact ⟨true, want_none rfl, fun _ => .inl ⟨_, _, ex_ix (Y := .int .i64 ((0 : Nat) : Int)) rfl (ev p3 rfl) rfl (ixH kq7 ko8 k c3 0 (by omega) _), Upd.refl _ _, fun h => absurd h (by decide), fun T2 N => N.s 40 rfl⟩, fun h => absurd h (by decide), fun h => absurd h (by decide)⟩
    · intro T df v zz zB zp zC
      have qb := zB.1
      have zU := zB.2
      have zDw : Below w.heap.size w v := d6.trans (zU.below d6.size (fun k hk => by have hk2 : k = w1.heap.size ∨ k = w3.heap.size := hk; omega))
      have p4 : T[40]? = some (gw true (.pointer (some ⟨kq7, ko8 + 0 * 32, none⟩))) := zp 4 (by kernel_rfl) (by kernel_rfl)
      exact ⟨true, want_none rfl, fun _ => .inl ⟨_, _, ex_ld rfl (ev p4 rfl) (ldH20 (lkq7.upd (S := fun _ => False) (Upd.of_below zDw) hkq7 id) hy0), Upd.refl _ _, fun h => absurd h (by decide), fun T2 N => N.s 41 rfl⟩, fun h => absurd h (by decide), fun h => absurd h (by decide)⟩
    · intro T df v zz zB zp zC
      have qb := zB.1
      have zU := zB.2
      exact ⟨true, want_none rfl, fun _ => .inl ⟨_, _, ex_move rfl (qb.e (j := 4) rfl), Upd.refl _ _, fun h => absurd h (by decide), fun T2 N => N.s 42 rfl⟩, fun h => absurd h (by decide), fun h => absurd h (by decide)⟩
    · intro T df v zz zB zp zC
      have qb := zB.1
      have zU := zB.2
      have p6 : T[42]? = some (gw true (.slice (some ⟨kq7, ko8, none⟩) k c3)) := zp 6 (by kernel_rfl) (by kernel_rfl)
      exact ⟨true, want_none rfl, fun _ => .inl ⟨_, _, ex_ix (Y := .int .i64 ((0 : Nat) : Int)) rfl (ev p6 rfl) rfl (ixH kq7 ko8 k c3 0 (by omega) _), Upd.refl _ _, fun h => absurd h (by decide), fun T2 N => N.s 43 rfl⟩, fun h => absurd h (by decide), fun h => absurd h (by decide)⟩
    · intro T df v zz zB zp zC
      have qb := zB.1
      have zU := zB.2
      have zDw : Below w.heap.size w v := d6.trans (zU.below d6.size (fun k hk => by have hk2 : k = w1.heap.size ∨ k = w3.heap.size := hk; omega))
      have p7 : T[43]? = some (gw true (.pointer (some ⟨kq7, ko8 + 0 * 32, none⟩))) := zp 7 (by kernel_rfl) (by kernel_rfl)
      exact ⟨true, want_none rfl, fun _ => .inl ⟨_, _, ex_ld rfl (ev p7 rfl) (ldH20 (lkq7.upd (S := fun _ => False) (Upd.of_below zDw) hkq7 id) hy0), Upd.refl _ _, fun h => absurd h (by decide), fun T2 N => N.s 44 rfl⟩, fun h => absurd h (by decide), fun h => absurd h (by decide)⟩
    · intro T df v zz zB zp zC
      have qb := zB.1
      have zU := zB.2
      exact ⟨true, want_none rfl, fun _ => .inl ⟨_, _, ex_move rfl (qb.e (j := 0) rfl), Upd.refl _ _, fun h => absurd h (by decide), fun T2 N => N.s 45 rfl⟩, fun h => absurd h (by decide), fun h => absurd h (by decide)⟩
    · intro T df v zz zB zp zC
      have qb := zB.1
      have zU := zB.2
      exact ⟨true, want_none rfl, fun _ => .inl ⟨_, _, ex_move rfl (qb.e (j := 1) rfl), Upd.refl _ _, fun h => absurd h (by decide), fun T2 N => N.s 46 rfl⟩, fun h => absurd h (by decide), fun h => absurd h (by decide)⟩
    · intro T df v zz zB zp zC
      have qb := zB.1
      have zU := zB.2
      have zDw : Below w.heap.size w v := d6.trans (zU.below d6.size (fun k hk => by have hk2 : k = w1.heap.size ∨ k = w3.heap.size := hk; omega))
      have p8 : T[44]? = some (gw true (y0.val)) := zp 8 (by kernel_rfl) (by kernel_rfl)
      have p9 : T[45]? = some (gw true (.slice a n c)) := zp 9 (by kernel_rfl) (by kernel_rfl)
      have p10 : T[46]? = some (gw true (.slice a2 n c2)) := zp 10 (by kernel_rfl) (by kernel_rfl)
      refine ⟨true, want_none rfl, fun hc => .inr (.inr ⟨_, _, _, ex_call rfl (by simp only [List.map_toArray, List.map_cons, List.map_nil, (ev p8 rfl), (ev p9 rfl), (ev p10 rfl), evc] <;> rfl) rfl, met20 y0 _ _ _ _ _ _ _ v (hA.later zDw) (hB.later zDw) (by omega) hvA hvB, ?_⟩), fun _ => rfl, fun h => absurd h (by decide)⟩
      rintro e w9 ⟨rfl, b9⟩
      exact ⟨_, rfl, Upd.of_below b9, fun h => absurd h (by decide), fun T2 N => N.s 47 rfl⟩
    · intro T df v zz zB zp zC
      have qb := zB.1
      have zU := zB.2
      have p2 : T[38]? = some (gw true (y0.val)) := zp 2 (by kernel_rfl) (by kernel_rfl)
      have hq : BB v w1.heap.size 24 (zH.cs) := zC 12 _ rfl (.inl rfl)
      exact ⟨_, want_none rfl, fun _ => .inr (.inl ⟨_, ex_st rfl (qb.e (j := 10) rfl) (ev p2 rfl) (hq.stH rfl _), (upd18 _ _ _ _).sub20 (fun k hk => by have hk2 : k = w1.heap.size := hk; show (12 = 12 ∧ k = w1.heap.size) ∨ (12 = 13 ∧ k = w3.heap.size); omega), fun h => absurd h (by decide), fun T2 N => hq.putH rfl _⟩), fun h => absurd h (by decide), fun h => absurd h (by decide)⟩
    · intro T df v zz zB zp zC
      have qb := zB.1
      have zU := zB.2
      have p5 : T[41]? = some (gw true (y0.val)) := zp 5 (by kernel_rfl) (by kernel_rfl)
      have hq : BB v w3.heap.size 24 (zH.cs) := zC 13 _ rfl (.inl rfl)
      exact ⟨_, want_none rfl, fun _ => .inr (.inl ⟨_, ex_st rfl (qb.e (j := 11) rfl) (ev p5 rfl) (hq.stH rfl _), (upd18 _ _ _ _).sub20 (fun k hk => by have hk2 : k = w3.heap.size := hk; show (13 = 12 ∧ k = w1.heap.size) ∨ (13 = 13 ∧ k = w3.heap.size); omega), fun h => absurd h (by decide), fun T2 N => hq.putH rfl _⟩), fun h => absurd h (by decide), fun h => absurd h (by decide)⟩
    · intro T df v zz zB zp zC
      have qb := zB.1
      have zU := zB.2
      have p11 : T[47]? = some (gw true (.bool (decide (MtP y0 A B)))) := zp 11 (by kernel_rfl) (by kernel_rfl)
      exact ⟨true, want_none rfl, fun _ => .inl ⟨_, _, ex_assign rfl (ev p11 rfl), Upd.refl _ _, fun h => absurd h (by decide), fun T2 N => N.s 12 rfl⟩, fun h => absurd h (by decide), fun h => absurd h (by decide)⟩
  intro T v10 zz zB zq za
  have qb := zB.1
  have U11 := zB.2
  clear zB zz
  clear q10
  have d12 : Below w.heap.size w v10 := d6.trans (U11.below (Nat.le_trans d6.size (Nat.le_refl _)) (fun k hk => by have hk2 : k = w1.heap.size ∨ k = w3.heap.size := hk; omega))
  have zv10 := U11.size
  have B13 : BB v10 w1.heap.size 24 (y0.cs) := zq 12 _ rfl (fun k => rfl)
  have B14 : BB v10 w3.heap.size 24 (y0.cs) := zq 13 _ rfl (fun k => rfl)
  have p14 : T[12]? = some (gw true (.bool (decide (MtP y0 A B)))) := zq 14 _ rfl (fun k => rfl)
  have q11 := (qb.cons p14)
  clear zq za qb p14
  go_wp2
  exact bodyPost_ret (resHHT20 rfl (q11.a 10 rfl) (q11.a 11 rfl) (q11.a 12 rfl) B13 B14) rfl ⟨rfl, d12⟩
def stL (A B : List En) (x : Hs) (wh : Bool) (P : List Hs) (tp : Hs) (n m k : Nat) (F1 : Bool) : Bool := F1 || ((!(decide (((cb x n (lft m) wh (P.take (k - 1))).2).v = (hd ((B.map lf).take (lft m))).v) && decide (tp.v = (hd ((B.map lf).drop (lft m))).v))) && decide ((nd ((cb x n (lft m) wh (P.take (k - 1))).2) tp).v = (nd (hd ((B.map lf).take (lft m))) (hd ((B.map lf).drop (lft m)))).v))
set_option maxHeartbeats 2000000 in
theorem steps_l (A B : List En) (n m : Nat) (wh : Bool) (x tp : Hs) (P : List Hs) (k : Nat) (htp : P[k - 1]? = some tp) (hk : 1 ≤ k) (hk2 : k ≤ 1000000000) (F1 : Bool) (c1 : ∀ (a : Option Addr) (c : Nat) (a2 : Option Addr) (c2 : Nat) (a3 : Option Addr) (c3 : Nat) (w : World), SlY yE w a n c A → SlY yE w a2 (lft m) c2 (B.take (lft m)) → SlY yH w a3 (k - 1) c3 (P.take (k - 1)) → Calls Try.prog 35 #[.slice a n c, .slice a2 (lft m) c2, .bool wh, x.val, .slice a3 (k - 1) c3] w fun e w' => e = .returned (.tuple #[(cb x n (lft m) wh (P.take (k - 1))).1.val, (cb x n (lft m) wh (P.take (k - 1))).2.val, .bool F1]) ∧ Below w.heap.size w w') (a : Option Addr) (c : Nat) (a2 : Option Addr) (c2 : Nat) (a3 : Option Addr) (c3 : Nat) (w : World) (hA : SlY yE w a n c A) (hB : SlY yE w a2 m c2 B) (hP : SlY yH w a3 k c3 P) (hn1 : 1 ≤ n) (hnm : n ≤ lft m) (hm2 : 2 ≤ m) (hm : m ≤ 1000000) (hvA : ∀ x ∈ A, x.o.v.size ≤ 140737488352232) (hvB : ∀ x ∈ B, x.o.v.size ≤ 140737488352232) :
    Calls Try.prog 35 #[.slice a n c, .slice a2 m c2, .bool wh, x.val, .slice a3 k c3] w fun e w' => e = .returned (.tuple #[(cb x n (lft m) wh (P.take (k - 1))).1.val, (nd (cb x n (lft m) wh (P.take (k - 1))).2 tp).val, .bool (stL A B x wh P tp n m k F1)]) ∧ Below w.heap.size w w' := by
  have hb := lft_b (n := m) (by omega)
  go_enter Try.func35, Try.ntmps35
  go_upto_region 0 with fail
  refine wp_region_lit ?_
  refine vl_gen (fun T => Rp T 154 [(4, gw true (.slice a3 k c3)), (3, gw true (x.val)), (2, gw true (.bool (wh))), (1, gw true (.slice a2 m c2)), (0, gw true (.slice a n c))]) ((((((Rp.nil rfl).cons rfl).cons rfl).cons rfl).cons rfl).cons rfl) (fun Z0 q0 => ?_)
  obtain ⟨w1, hw1⟩ : ∃ y, y = w.alloc (.cells (x.cs).toArray 24) := ⟨_, rfl⟩
  refine vw (.pointer (some ⟨w.heap.size, 0, none⟩)) w1 (want_none rfl) (ex_box18 rfl (q0.e (j := 3) rfl) (by rw [hw1]; exact bxH20 _ _)) rfl q0.z (by decide) (q0.k fun _ q1 => ?_);clear q0
  have Bw1 : BB w1 w.heap.size 24 (x.cs) := by rw [hw1]; exact BB.new _ _ _
  have bw1 : Below w.heap.size w w1 := by rw [hw1]; exact (Below.refl _ _).alloc (Nat.le_refl _) _
  have zw1 : w1.heap.size = w.heap.size + 1 := by rw [hw1]; exact World.size_alloc _ _
  clear hw1
  have d2 : Below w.heap.size w w1 := bw1
  obtain ⟨w3, hw3⟩ : ∃ y, y = w1.alloc (.cells (zH.cs).toArray 24) := ⟨_, rfl⟩
  refine vw (.pointer (some ⟨w1.heap.size, 0, none⟩)) w3 (want_none rfl) (ex_al rfl (by rw [hw3]; exact alH _)) rfl q1.z (by decide) (q1.k fun _ q2 => ?_);clear q1
  have Bw3 : BB w3 w1.heap.size 24 (zH.cs) := by rw [hw3]; exact BB.new _ _ _
  have bw3 : Below w1.heap.size w1 w3 := by rw [hw3]; exact (Below.refl _ _).alloc (Nat.le_refl _) _
  have zw3 : w3.heap.size = w1.heap.size + 1 := by rw [hw3]; exact World.size_alloc _ _
  clear hw3
  have d4 : Below w.heap.size w w3 := d2.trans (bw3.mono d2.size)
  obtain ⟨w5, hw5⟩ : ∃ y, y = w3.alloc (.cells (zH.cs).toArray 24) := ⟨_, rfl⟩
  refine vw (.pointer (some ⟨w3.heap.size, 0, none⟩)) w5 (want_none rfl) (ex_al rfl (by rw [hw5]; exact alH _)) rfl q2.z (by decide) (q2.k fun _ q3 => ?_);clear q2
  have Bw5 : BB w5 w3.heap.size 24 (zH.cs) := by rw [hw5]; exact BB.new _ _ _
  have bw5 : Below w3.heap.size w3 w5 := by rw [hw5]; exact (Below.refl _ _).alloc (Nat.le_refl _) _
  have zw5 : w5.heap.size = w3.heap.size + 1 := by rw [hw5]; exact World.size_alloc _ _
  clear hw5
  have d6 : Below w.heap.size w w5 := d4.trans (bw5.mono d4.size)
  refine q3.t (.bool false) (ex_assign rfl rfl) fun _ q4 => ?_;clear q3
  refine wpList_nil ?_
  go_upto_region 1 with fail
  refine wp_region_lit ?_
  refine q4.t (.slice a n c) (ex_move rfl (q4.e (j := 0) rfl)) fun _ q5 => ?_;clear q4
  refine q5.t (.int .i64 ((n : Nat) : Int)) (ex_lenG rfl rfl Try.underlying22 (q5.e (j := 24) rfl)) fun _ q6 => ?_;clear q5
  refine q6.t (.slice a2 m c2) (ex_move rfl (q6.e (j := 1) rfl)) fun _ q7 => ?_;clear q6
  refine q7.t (.int .i64 ((m : Nat) : Int)) (ex_lenG rfl rfl Try.underlying22 (q7.e (j := 26) rfl)) fun _ q8 => ?_;clear q7
  refine q8.t (.bool false) (ex_bin rfl (q8.e (j := 25) rfl) (q8.e (j := 27) rfl) (eqF20 _ _ (by omega) _)) fun _ q9 => ?_;clear q8
  refine wpList_nil ?_
  go_upto_region 5 with fail
  refine wp_cond_false (q9.e (j := 28) rfl) ?_
  go_upto_region 5 with fail
  refine wp_region_lit ?_
  refine q9.t (.slice a2 m c2) (ex_move rfl (q9.e (j := 1) rfl)) fun _ q10 => ?_;clear q9
  refine q10.t (.int .i64 ((m : Nat) : Int)) (ex_lenG rfl rfl Try.underlying22 (q10.e (j := 48) rfl)) fun _ q11 => ?_;clear q10
  refine vcallP (want_none rfl) (ex_call rfl (by simp only [List.map_toArray, List.map_cons, List.map_nil, (q11.e (j := 49) rfl), evc] <;> rfl) rfl) (split20 m (by omega) (by omega) w5) rfl q11.z (by decide) ?_
  rintro e w7 ⟨rfl, hw7⟩
  refine ⟨_, rfl, q11.k fun _ q12 => ?_⟩;clear q11
  have hw7 := hw7.symm
  subst hw7
  refine q12.t (.int .i64 ((lft m : Nat) : Int)) (ex_assign rfl (q12.e (j := 50) rfl)) fun _ q13 => ?_;clear q12
  refine wpList_nil ?_
  have lB := hB.len
  have lP := hP.len
  obtain ⟨kq8, ko9, rfl, hkq8, lkq8⟩ := hB.place (by rintro rfl; simp at lB; omega)
  have ckq8 := hB.cap
  obtain ⟨kq10, ko11, rfl, hkq10, lkq10⟩ := hP.place (by rintro rfl; simp at htp)
  have ckq10 := hP.cap
  go_upto_region 6 with fail
  refine wp_region_lit ?_
  refine q13.t (.slice (some ⟨kq10, ko11, none⟩) k c3) (ex_move rfl (q13.e (j := 4) rfl)) fun _ q14 => ?_;clear q13
  refine q14.t (.int .i64 ((k : Nat) : Int)) (ex_lenG rfl rfl Try.underlying42 (q14.e (j := 51) rfl)) fun _ q15 => ?_;clear q14
  refine q15.t (.int .i64 ((k - 1 : Nat) : Int)) (ex_bin (Y := .int .i64 ((1 : Nat) : Int)) rfl (q15.e (j := 52) rfl) rfl (subP _ _ k 1 (by omega) (by omega) _)) fun _ q16 => ?_;clear q15
  refine q16.t (.int .i64 ((k - 1 : Nat) : Int)) (ex_assign rfl (q16.e (j := 53) rfl)) fun _ q17 => ?_;clear q16
  refine wpList_nil ?_
  go_upto_region 7 with fail
  refine wp_region_lit ?_
  refine q17.t (.slice a n c) (ex_move rfl (q17.e (j := 0) rfl)) fun _ q18 => ?_;clear q17
  refine q18.t (.int .i64 ((n : Nat) : Int)) (ex_lenG rfl rfl Try.underlying22 (q18.e (j := 54) rfl)) fun _ q19 => ?_;clear q18
  refine q19.t (.int .i64 ((lft m : Nat) : Int)) (ex_move rfl (q19.e (j := 13) rfl)) fun _ q20 => ?_;clear q19
  refine q20.t (.bool true) (ex_bin rfl (q20.e (j := 55) rfl) (q20.e (j := 56) rfl) (leT20 _ _ (by omega) _)) fun _ q21 => ?_;clear q20
  refine wpList_nil ?_
  go_upto_region 8 with fail
  refine wp_cond_true (q21.e (j := 57) rfl) ?_
  go_upto_region 8 with fail
  have B12 : BB w5 w.heap.size 24 (x.cs) := ((Bw1.later bw3).later bw5)
  refine vp_start 154 (fun T v => Rp T 154 [(0, gw true (.slice a n c)), (1, gw true (.slice (some ⟨kq8, ko9, none⟩) m c2)), (2, gw true (.bool (wh))), (4, gw true (.slice (some ⟨kq10, ko11, none⟩) k c3)), (8, gw true (.pointer (some ⟨w.heap.size, 0, none⟩))), (10, gw true (.pointer (some ⟨w1.heap.size, 0, none⟩))), (11, gw true (.pointer (some ⟨w3.heap.size, 0, none⟩))), (12, gw true (.bool false)), (13, gw true (.int .i64 ((lft m : Nat) : Int))), (14, gw true (.int .i64 ((k - 1 : Nat) : Int))), (28, gw true (.bool false)), (57, gw true (.bool true))] ∧ Upd (fun k => False) w5 v) (fun (i : Nat) (T : Array Value) (v : World) => match i with | 0 => T[59]? = some (gw true (.slice a n c)) | 1 => T[60]? = some (gw true (.slice (some ⟨kq8, ko9, none⟩) m c2)) | 2 => T[61]? = some (gw true (.int .i64 ((lft m : Nat) : Int))) | 3 => T[62]? = some (gw true (.slice (some ⟨kq8, ko9, none⟩) (lft m) c2)) | 4 => T[63]? = some (gw true (.bool (wh))) | 5 => T[64]? = some (gw true (x.val)) | 6 => T[65]? = some (gw true (.slice (some ⟨kq10, ko11, none⟩) k c3)) | 7 => T[66]? = some (gw true (.int .i64 ((k - 1 : Nat) : Int))) | 8 => T[67]? = some (gw true (.slice (some ⟨kq10, ko11, none⟩) (k - 1) c3)) | 9 => T[68]? = some (gw true (.tuple #[((cb x n (lft m) wh (P.take (k - 1))).1).val, ((cb x n (lft m) wh (P.take (k - 1))).2).val, .bool (F1)])) | 10 => T[58]? = some (gw true (.tuple #[((cb x n (lft m) wh (P.take (k - 1))).1).val, ((cb x n (lft m) wh (P.take (k - 1))).2).val, .bool (F1)])) | 11 => T[69]? = some (gw true (((cb x n (lft m) wh (P.take (k - 1))).1).val)) | 12 => T[70]? = some (gw true (((cb x n (lft m) wh (P.take (k - 1))).2).val)) | 13 => T[71]? = some (gw true (.bool (F1))) | 14 => ∃ b : Nat, T[15]? = some (gw true (.pointer (some ⟨b, 0, none⟩))) ∧ BB v b 24 (zH.cs) ∧ w5.heap.size ≤ b | 15 => ∃ b : Nat, T[16]? = some (gw true (.pointer (some ⟨b, 0, none⟩))) ∧ BB v b 24 (zH.cs) ∧ w5.heap.size ≤ b | 16 => ∃ b : Nat, T[15]? = some (gw true (.pointer (some ⟨b, 0, none⟩))) ∧ BB v b 24 (((cb x n (lft m) wh (P.take (k - 1))).1).cs) ∧ w5.heap.size ≤ b | 17 => ∃ b : Nat, T[16]? = some (gw true (.pointer (some ⟨b, 0, none⟩))) ∧ BB v b 24 (((cb x n (lft m) wh (P.take (k - 1))).2).cs) ∧ w5.heap.size ≤ b | 18 => T[17]? = some (gw true (.bool (F1))) | _ => True) (fun (i : Nat) (T : Array Value) (v : World) => match i with | _ => True) (fun j T k => (j = 16 ∧ k = ptr T 15 ∧ w5.heap.size ≤ k) ∨ (j = 17 ∧ k = ptr T 16 ∧ w5.heap.size ≤ k)) (fun i => match i with | 0 => [59] | 1 => [60] | 2 => [61] | 3 => [62] | 4 => [63] | 5 => [64] | 6 => [65] | 7 => [66] | 8 => [67] | 9 => [68] | 10 => [58] | 11 => [69] | 12 => [70] | 13 => [71] | 14 => [15] | 15 => [16] | 16 => [15] | 17 => [16] | 18 => [17] | _ => []) (fun _ => []) [0, 1, 2, 4, 8, 10, 11, 12, 13, 14, 28, 57] (fun i j => (Nat.beq i 14 && Nat.beq j 16) || (Nat.beq i 15 && Nat.beq j 17)) (fun i => Nat.beq i 14 || Nat.beq i 15) (by kernel_rfl) (by kernel_rfl) q21.z ⟨(((((((((((((Rp.nil q21.z).cons (q21.a 57 rfl)).cons (q21.a 28 rfl)).cons (q21.a 14 rfl)).cons (q21.a 13 rfl)).cons (q21.a 12 rfl)).cons (q21.a 11 rfl)).cons (q21.a 10 rfl)).cons (q21.a 8 rfl)).cons (q21.a 4 rfl)).cons (q21.a 2 rfl)).cons (q21.a 1 rfl)).cons (q21.a 0 rfl)), (Upd.refl _ _).drew20⟩ ?_ ?_ ?_ ?_ ?_ ?_
  · exact ⟨trivial, trivial, trivial, trivial, trivial, trivial, trivial, trivial, trivial, trivial, trivial, trivial, trivial, trivial, trivial, trivial, trivial, trivial, trivial, trivial⟩
  · intro j T T2 v v2 h _ hz hk hu
    exact ⟨h.1.ch hz hk, h.2.tr20 hu (fun k hk he => by have he2 : (j = 16 ∧ k = ptr T 15 ∧ w5.heap.size ≤ k) ∨ (j = 17 ∧ k = ptr T 16 ∧ w5.heap.size ≤ k) := he; show False; omega)⟩
  · refine ⟨?_, ?_, ?_, ?_, ?_, ?_, ?_, ?_, ?_, ?_, ?_, ?_, ?_, ?_, ?_, ?_, ?_, ?_, ?_, trivial⟩
    · exact fun j hj hu T T2 v v2 h hD hz hk zU => (hk 59 (List.mem_singleton.2 rfl)).trans h
    · exact fun j hj hu T T2 v v2 h hD hz hk zU => (hk 60 (List.mem_singleton.2 rfl)).trans h
    · exact fun j hj hu T T2 v v2 h hD hz hk zU => (hk 61 (List.mem_singleton.2 rfl)).trans h
    · exact fun j hj hu T T2 v v2 h hD hz hk zU => (hk 62 (List.mem_singleton.2 rfl)).trans h
    · exact fun j hj hu T T2 v v2 h hD hz hk zU => (hk 63 (List.mem_singleton.2 rfl)).trans h
    · exact fun j hj hu T T2 v v2 h hD hz hk zU => (hk 64 (List.mem_singleton.2 rfl)).trans h
    · exact fun j hj hu T T2 v v2 h hD hz hk zU => (hk 65 (List.mem_singleton.2 rfl)).trans h
    · exact fun j hj hu T T2 v v2 h hD hz hk zU => (hk 66 (List.mem_singleton.2 rfl)).trans h
    · exact fun j hj hu T T2 v v2 h hD hz hk zU => (hk 67 (List.mem_singleton.2 rfl)).trans h
    · exact fun j hj hu T T2 v v2 h hD hz hk zU => (hk 68 (List.mem_singleton.2 rfl)).trans h
    · exact fun j hj hu T T2 v v2 h hD hz hk zU => (hk 58 (List.mem_singleton.2 rfl)).trans h
    · exact fun j hj hu T T2 v v2 h hD hz hk zU => (hk 69 (List.mem_singleton.2 rfl)).trans h
    · exact fun j hj hu T T2 v v2 h hD hz hk zU => (hk 70 (List.mem_singleton.2 rfl)).trans h
    · exact fun j hj hu T T2 v v2 h hD hz hk zU => (hk 71 (List.mem_singleton.2 rfl)).trans h
    · intro j hj hu T T2 v v2 h hD hz hk zU
      obtain ⟨b, pb, Bb, lb⟩ := h
      have e1 : ptr T 15 = b := by unfold ptr; rw [pb]; rfl
      have n17 : j = 17 → b ≠ ptr T 16 := fun e => by subst e; rw [← e1]; exact hD _ _ 14 15 15 16 rfl rfl rfl rfl (by decide) (.inl rfl) (by kernel_rfl) rfl rfl
      have n16 : j ≠ 16 := fun e => by subst e; exact absurd hu (by decide)
      exact ⟨b, (hk 15 (List.mem_singleton.2 rfl)).trans pb, Bb.upd zU (fun he => by have he2 : (j = 16 ∧ b = ptr T 15 ∧ w5.heap.size ≤ b) ∨ (j = 17 ∧ b = ptr T 16 ∧ w5.heap.size ≤ b) := he; omega), lb⟩
    · intro j hj hu T T2 v v2 h hD hz hk zU
      obtain ⟨b, pb, Bb, lb⟩ := h
      have e1 : ptr T 16 = b := by unfold ptr; rw [pb]; rfl
      have n16 : j = 16 → b ≠ ptr T 15 := fun e => by subst e; rw [← e1]; exact hD _ _ 15 14 16 15 rfl rfl rfl rfl (by decide) (.inl rfl) (by kernel_rfl) rfl rfl
      have n17 : j ≠ 17 := fun e => by subst e; exact absurd hu (by decide)
      exact ⟨b, (hk 16 (List.mem_singleton.2 rfl)).trans pb, Bb.upd zU (fun he => by have he2 : (j = 16 ∧ b = ptr T 15 ∧ w5.heap.size ≤ b) ∨ (j = 17 ∧ b = ptr T 16 ∧ w5.heap.size ≤ b) := he; omega), lb⟩
    · intro j hj hu T T2 v v2 h hD hz hk zU
      obtain ⟨b, pb, Bb, lb⟩ := h
      have e1 : ptr T 15 = b := by unfold ptr; rw [pb]; rfl
      have n17 : j = 17 → b ≠ ptr T 16 := fun e => by subst e; rw [← e1]; exact hD _ _ 14 15 15 16 rfl rfl rfl rfl (by decide) (.inr (by kernel_rfl)) (by kernel_rfl) rfl rfl
      exact ⟨b, (hk 15 (List.mem_singleton.2 rfl)).trans pb, Bb.upd zU (fun he => by have he2 : (j = 16 ∧ b = ptr T 15 ∧ w5.heap.size ≤ b) ∨ (j = 17 ∧ b = ptr T 16 ∧ w5.heap.size ≤ b) := he; omega), lb⟩
    · intro j hj hu T T2 v v2 h hD hz hk zU
      obtain ⟨b, pb, Bb, lb⟩ := h
      have e1 : ptr T 16 = b := by unfold ptr; rw [pb]; rfl
      have n16 : j = 16 → b ≠ ptr T 15 := fun e => by subst e; rw [← e1]; exact hD _ _ 15 14 16 15 rfl rfl rfl rfl (by decide) (.inr (by kernel_rfl)) (by kernel_rfl) rfl rfl
      exact ⟨b, (hk 16 (List.mem_singleton.2 rfl)).trans pb, Bb.upd zU (fun he => by have he2 : (j = 16 ∧ b = ptr T 15 ∧ w5.heap.size ≤ b) ∨ (j = 17 ∧ b = ptr T 16 ∧ w5.heap.size ≤ b) := he; omega), lb⟩
    · exact fun j hj hu T T2 v v2 h hD hz hk zU => (hk 17 (List.mem_singleton.2 rfl)).trans h
  · refine ⟨fun _ _ _ _ _ _ _ _ _ _ _ => trivial, fun _ _ _ _ _ _ _ _ _ _ _ => trivial, fun _ _ _ _ _ _ _ _ _ _ _ => trivial, fun _ _ _ _ _ _ _ _ _ _ _ => trivial, fun _ _ _ _ _ _ _ _ _ _ _ => trivial, fun _ _ _ _ _ _ _ _ _ _ _ => trivial, fun _ _ _ _ _ _ _ _ _ _ _ => trivial, fun _ _ _ _ _ _ _ _ _ _ _ => trivial, fun _ _ _ _ _ _ _ _ _ _ _ => trivial, fun _ _ _ _ _ _ _ _ _ _ _ => trivial, fun _ _ _ _ _ _ _ _ _ _ _ => trivial, fun _ _ _ _ _ _ _ _ _ _ _ => trivial, fun _ _ _ _ _ _ _ _ _ _ _ => trivial, fun _ _ _ _ _ _ _ _ _ _ _ => trivial, fun _ _ _ _ _ _ _ _ _ _ _ => trivial, fun _ _ _ _ _ _ _ _ _ _ _ => trivial, fun _ _ _ _ _ _ _ _ _ _ _ => trivial, fun _ _ _ _ _ _ _ _ _ _ _ => trivial, fun _ _ _ _ _ _ _ _ _ _ _ => trivial, trivial⟩
  · refine ⟨?_, ?_, ?_, ?_, ?_, ?_, ?_, ?_, ?_, ?_, ?_, ?_, ?_, ?_, ?_, ?_, ?_, ?_, ?_, trivial⟩
    · intro T df v zz zB zp zC
      have qb := zB.1
      have zU := zB.2
      exact ⟨true, want_none rfl, fun _ => .inl ⟨_, _, ex_move rfl (qb.e (j := 0) rfl), Upd.refl _ _, fun h => absurd h (by decide), fun T2 N => N.s 59 rfl⟩, fun h => absurd h (by decide), fun h => absurd h (by decide)⟩
    · intro T df v zz zB zp zC
      have qb := zB.1
      have zU := zB.2
      exact ⟨true, want_none rfl, fun _ => .inl ⟨_, _, ex_move rfl (qb.e (j := 1) rfl), Upd.refl _ _, fun h => absurd h (by decide), fun T2 N => N.s 60 rfl⟩, fun h => absurd h (by decide), fun h => absurd h (by decide)⟩
    · intro T df v zz zB zp zC
      have qb := zB.1
      have zU := zB.2
      exact ⟨true, want_none rfl, fun _ => .inl ⟨_, _, ex_move rfl (qb.e (j := 13) rfl), Upd.refl _ _, fun h => absurd h (by decide), fun T2 N => N.s 61 rfl⟩, fun h => absurd h (by decide), fun h => absurd h (by decide)⟩
    · intro T df v zz zB zp zC
      have qb := zB.1
      have zU := zB.2
      have p1 : T[60]? = some (gw true (.slice (some ⟨kq8, ko9, none⟩) m c2)) := zp 1 (by kernel_rfl) (by kernel_rfl)
      have p2 : T[61]? = some (gw true (.int .i64 ((lft m : Nat) : Int))) := zp 2 (by kernel_rfl) (by kernel_rfl)
      exact ⟨true, want_none rfl, fun _ => .inl ⟨_, _, ex_sl19 rfl (ev p1 rfl) rfl (congrArg some (ev p2 rfl)) rfl (slToE20 kq8 ko9 m c2 (lft m) (by omega) (ckq8) _), Upd.refl _ _, fun h => absurd h (by decide), fun T2 N => N.s 62 rfl⟩, fun h => absurd h (by decide), fun h => absurd h (by decide)⟩
    · intro T df v zz zB zp zC
      have qb := zB.1
      have zU := zB.2
      exact ⟨true, want_none rfl, fun _ => .inl ⟨_, _, ex_move rfl (qb.e (j := 2) rfl), Upd.refl _ _, fun h => absurd h (by decide), fun T2 N => N.s 63 rfl⟩, fun h => absurd h (by decide), fun h => absurd h (by decide)⟩
    · intro T df v zz zB zp zC
      have qb := zB.1
      have zU := zB.2
      exact ⟨true, want_none rfl, fun _ => .inl ⟨_, _, ex_ld rfl (qb.e (j := 8) rfl) (B12.upd zU (show ¬ False from id)).ldH, Upd.refl _ _, fun h => absurd h (by decide), fun T2 N => N.s 64 rfl⟩, fun h => absurd h (by decide), fun h => absurd h (by decide)⟩
    · intro T df v zz zB zp zC
      have qb := zB.1
      have zU := zB.2
      exact ⟨true, want_none rfl, fun _ => .inl ⟨_, _, ex_move rfl (qb.e (j := 4) rfl), Upd.refl _ _, fun h => absurd h (by decide), fun T2 N => N.s 65 rfl⟩, fun h => absurd h (by decide), fun h => absurd h (by decide)⟩
    · intro T df v zz zB zp zC
      have qb := zB.1
      have zU := zB.2
      exact ⟨true, want_none rfl, fun _ => .inl ⟨_, _, ex_move rfl (qb.e (j := 14) rfl), Upd.refl _ _, fun h => absurd h (by decide), fun T2 N => N.s 66 rfl⟩, fun h => absurd h (by decide), fun h => absurd h (by decide)⟩
    · intro T df v zz zB zp zC
      have qb := zB.1
      have zU := zB.2
      have p6 : T[65]? = some (gw true (.slice (some ⟨kq10, ko11, none⟩) k c3)) := zp 6 (by kernel_rfl) (by kernel_rfl)
      have p7 : T[66]? = some (gw true (.int .i64 ((k - 1 : Nat) : Int))) := zp 7 (by kernel_rfl) (by kernel_rfl)
      exact ⟨true, want_none rfl, fun _ => .inl ⟨_, _, ex_sl19 rfl (ev p6 rfl) rfl (congrArg some (ev p7 rfl)) rfl (slToH kq10 ko11 k c3 (k - 1) (by omega) (ckq10) _), Upd.refl _ _, fun h => absurd h (by decide), fun T2 N => N.s 67 rfl⟩, fun h => absurd h (by decide), fun h => absurd h (by decide)⟩
    · intro T df v zz zB zp zC
      have qb := zB.1
      have zU := zB.2
      have zDw : Below w.heap.size w v := d6.trans (zU.below d6.size (fun k hk => hk.elim))
      have p0 : T[59]? = some (gw true (.slice a n c)) := zp 0 (by kernel_rfl) (by kernel_rfl)
      have p3 : T[62]? = some (gw true (.slice (some ⟨kq8, ko9, none⟩) (lft m) c2)) := zp 3 (by kernel_rfl) (by kernel_rfl)
      have p4 : T[63]? = some (gw true (.bool (wh))) := zp 4 (by kernel_rfl) (by kernel_rfl)
      have p5 : T[64]? = some (gw true (x.val)) := zp 5 (by kernel_rfl) (by kernel_rfl)
      have p8 : T[67]? = some (gw true (.slice (some ⟨kq10, ko11, none⟩) (k - 1) c3)) := zp 8 (by kernel_rfl) (by kernel_rfl)
      refine ⟨true, want_none rfl, fun hc => .inr (.inr ⟨_, _, _, ex_call rfl (by simp only [List.map_toArray, List.map_cons, List.map_nil, (ev p0 rfl), (ev p3 rfl), (ev p4 rfl), (ev p5 rfl), (ev p8 rfl), evc] <;> rfl) rfl, c1 _ _ _ _ _ _ v (hA.later zDw) ((hB.later zDw).take (lft m) (by omega)) ((hP.later zDw).take (k - 1) (by omega)), ?_⟩), fun _ => rfl, fun h => absurd h (by decide)⟩
      rintro e w9 ⟨rfl, b9⟩
      exact ⟨_, rfl, Upd.of_below b9, fun h => absurd h (by decide), fun T2 N => N.s 68 rfl⟩
    · intro T df v zz zB zp zC
      have qb := zB.1
      have zU := zB.2
      have p9 : T[68]? = some (gw true (.tuple #[((cb x n (lft m) wh (P.take (k - 1))).1).val, ((cb x n (lft m) wh (P.take (k - 1))).2).val, .bool (F1)])) := zp 9 (by kernel_rfl) (by kernel_rfl)
      exact ⟨true, want_none rfl, fun _ => .inl ⟨_, _, ex_move rfl (ev p9 rfl), Upd.refl _ _, fun h => absurd h (by decide), fun T2 N => N.s 58 rfl⟩, fun h => absurd h (by decide), fun h => absurd h (by decide)⟩
    · intro T df v zz zB zp zC
      have qb := zB.1
      have zU := zB.2
      have p10 : T[58]? = some (gw true (.tuple #[((cb x n (lft m) wh (P.take (k - 1))).1).val, ((cb x n (lft m) wh (P.take (k - 1))).2).val, .bool (F1)])) := zp 10 (by kernel_rfl) (by kernel_rfl)
      exact ⟨true, want_none rfl, fun _ => .inl ⟨_, _, ex_ext18 rfl (ev p10 rfl) rfl, Upd.refl _ _, fun h => absurd h (by decide), fun T2 N => N.s 69 rfl⟩, fun h => absurd h (by decide), fun h => absurd h (by decide)⟩
    · intro T df v zz zB zp zC
      have qb := zB.1
      have zU := zB.2
      have p10 : T[58]? = some (gw true (.tuple #[((cb x n (lft m) wh (P.take (k - 1))).1).val, ((cb x n (lft m) wh (P.take (k - 1))).2).val, .bool (F1)])) := zp 10 (by kernel_rfl) (by kernel_rfl)
      exact ⟨true, want_none rfl, fun _ => .inl ⟨_, _, ex_ext18 rfl (ev p10 rfl) rfl, Upd.refl _ _, fun h => absurd h (by decide), fun T2 N => N.s 70 rfl⟩, fun h => absurd h (by decide), fun h => absurd h (by decide)⟩
    · intro T df v zz zB zp zC
      have qb := zB.1
      have zU := zB.2
      have p10 : T[58]? = some (gw true (.tuple #[((cb x n (lft m) wh (P.take (k - 1))).1).val, ((cb x n (lft m) wh (P.take (k - 1))).2).val, .bool (F1)])) := zp 10 (by kernel_rfl) (by kernel_rfl)
      exact ⟨true, want_none rfl, fun _ => .inl ⟨_, _, ex_ext18 rfl (ev p10 rfl) rfl, Upd.refl _ _, fun h => absurd h (by decide), fun T2 N => N.s 71 rfl⟩, fun h => absurd h (by decide), fun h => absurd h (by decide)⟩
    · intro T df v zz zB zp zC
      have qb := zB.1
      have zU := zB.2
      exact ⟨_, want_none rfl, fun _ => .inl ⟨_, _, ex_al rfl (alH _), Upd.of_below ((Below.refl _ _).alloc (Nat.le_refl _) _), fun _ => ⟨_, rfl, Nat.le_refl _, by rw [World.size_alloc]; exact Nat.lt_succ_self _⟩, fun T2 N => ⟨_, N.s 15 rfl, BB.new _ _ _, zU.size⟩⟩, fun h => absurd h (by decide), fun h => absurd h (by decide)⟩
    · intro T df v zz zB zp zC
      have qb := zB.1
      have zU := zB.2
      exact ⟨_, want_none rfl, fun _ => .inl ⟨_, _, ex_al rfl (alH _), Upd.of_below ((Below.refl _ _).alloc (Nat.le_refl _) _), fun _ => ⟨_, rfl, Nat.le_refl _, by rw [World.size_alloc]; exact Nat.lt_succ_self _⟩, fun T2 N => ⟨_, N.s 16 rfl, BB.new _ _ _, zU.size⟩⟩, fun h => absurd h (by decide), fun h => absurd h (by decide)⟩
    · intro T df v zz zB zp zC
      have qb := zB.1
      have zU := zB.2
      have p11 : T[69]? = some (gw true (((cb x n (lft m) wh (P.take (k - 1))).1).val)) := zp 11 (by kernel_rfl) (by kernel_rfl)
      have p14 : ∃ b : Nat, T[15]? = some (gw true (.pointer (some ⟨b, 0, none⟩))) ∧ BB v b 24 (zH.cs) ∧ w5.heap.size ≤ b := zp 14 (by kernel_rfl) (by kernel_rfl)
      obtain ⟨b, pb, Bb, lb⟩ := p14
      have e1 : ptr T 15 = b := by unfold ptr; rw [pb]; rfl
      exact ⟨_, want_none rfl, fun _ => .inr (.inl ⟨_, ex_st rfl (ev pb rfl) (ev p11 rfl) (Bb.stH rfl _), (upd18 _ _ _ _).sub20 (fun k hk => by have hk2 : k = b := hk; show (16 = 16 ∧ k = ptr T 15 ∧ w5.heap.size ≤ k) ∨ (16 = 17 ∧ k = ptr T 16 ∧ w5.heap.size ≤ k); omega), fun h => absurd h (by decide), fun T2 N => ⟨b, (N.k 15 rfl).trans pb, Bb.putH rfl _, lb⟩⟩), fun h => absurd h (by decide), fun h => absurd h (by decide)⟩
    · intro T df v zz zB zp zC
      have qb := zB.1
      have zU := zB.2
      have p12 : T[70]? = some (gw true (((cb x n (lft m) wh (P.take (k - 1))).2).val)) := zp 12 (by kernel_rfl) (by kernel_rfl)
      have p15 : ∃ b : Nat, T[16]? = some (gw true (.pointer (some ⟨b, 0, none⟩))) ∧ BB v b 24 (zH.cs) ∧ w5.heap.size ≤ b := zp 15 (by kernel_rfl) (by kernel_rfl)
      obtain ⟨b, pb, Bb, lb⟩ := p15
      have e1 : ptr T 16 = b := by unfold ptr; rw [pb]; rfl
      exact ⟨_, want_none rfl, fun _ => .inr (.inl ⟨_, ex_st rfl (ev pb rfl) (ev p12 rfl) (Bb.stH rfl _), (upd18 _ _ _ _).sub20 (fun k hk => by have hk2 : k = b := hk; show (17 = 16 ∧ k = ptr T 15 ∧ w5.heap.size ≤ k) ∨ (17 = 17 ∧ k = ptr T 16 ∧ w5.heap.size ≤ k); omega), fun h => absurd h (by decide), fun T2 N => ⟨b, (N.k 16 rfl).trans pb, Bb.putH rfl _, lb⟩⟩), fun h => absurd h (by decide), fun h => absurd h (by decide)⟩
    · intro T df v zz zB zp zC
      have qb := zB.1
      have zU := zB.2
      have p13 : T[71]? = some (gw true (.bool (F1))) := zp 13 (by kernel_rfl) (by kernel_rfl)
      exact ⟨true, want_none rfl, fun _ => .inl ⟨_, _, ex_assign rfl (ev p13 rfl), Upd.refl _ _, fun h => absurd h (by decide), fun T2 N => N.s 17 rfl⟩, fun h => absurd h (by decide), fun h => absurd h (by decide)⟩
  intro T v13 zz zB zq za
  have qb := zB.1
  have U14 := zB.2
  clear zB zz
  clear q21
  have d15 : Below w.heap.size w v13 := d6.trans (U14.below (Nat.le_trans d6.size (Nat.le_refl _)) (fun k hk => hk.elim))
  have zv13 := U14.size
  obtain ⟨b16, p16, Bb16, lb16⟩ : ∃ b : Nat, T[15]? = some (gw true (.pointer (some ⟨b, 0, none⟩))) ∧ BB v13 b 24 (((cb x n (lft m) wh (P.take (k - 1))).1).cs) ∧ w5.heap.size ≤ b := zq 16 _ rfl (fun k => rfl)
  have ltb16 := Bb16.lt
  obtain ⟨b17, p17, Bb17, lb17⟩ : ∃ b : Nat, T[16]? = some (gw true (.pointer (some ⟨b, 0, none⟩))) ∧ BB v13 b 24 (((cb x n (lft m) wh (P.take (k - 1))).2).cs) ∧ w5.heap.size ≤ b := zq 17 _ rfl (fun k => rfl)
  have ltb17 := Bb17.lt
  have p18 : T[17]? = some (gw true (.bool (F1))) := zq 18 _ rfl (fun k => rfl)
  have nb16b17 : b16 ≠ b17 := by
    have := za 14 15 _ _ 15 16 rfl rfl rfl rfl (by decide) rfl rfl
    unfold ptr at this
    rw [p16, p17] at this
    exact this
  have q22 := (((qb.cons p16).cons p17).cons p18)
  clear zq za qb p16 p17 p18
  go_upto_region 9 with fail
  refine vp_start 154 (fun T v => Rp T 154 [(0, gw true (.slice a n c)), (1, gw true (.slice (some ⟨kq8, ko9, none⟩) m c2)), (4, gw true (.slice (some ⟨kq10, ko11, none⟩) k c3)), (8, gw true (.pointer (some ⟨w.heap.size, 0, none⟩))), (10, gw true (.pointer (some ⟨w1.heap.size, 0, none⟩))), (11, gw true (.pointer (some ⟨w3.heap.size, 0, none⟩))), (12, gw true (.bool false)), (13, gw true (.int .i64 ((lft m : Nat) : Int))), (14, gw true (.int .i64 ((k - 1 : Nat) : Int))), (15, gw true (.pointer (some ⟨b16, 0, none⟩))), (16, gw true (.pointer (some ⟨b17, 0, none⟩))), (17, gw true (.bool (F1))), (28, gw true (.bool false)), (57, gw true (.bool true))] ∧ Upd (fun k => False) v13 v) (fun (i : Nat) (T : Array Value) (v : World) => match i with | 0 => T[72]? = some (gw true (((cb x n (lft m) wh (P.take (k - 1))).2).val)) | 1 => T[73]? = some (gw true (.slice (some ⟨kq10, ko11, none⟩) k c3)) | 2 => T[74]? = some (gw true (.int .i64 ((k - 1 : Nat) : Int))) | 3 => T[75]? = some (gw true (.pointer (some ⟨kq10, ko11 + (k - 1) * 32, none⟩))) | 4 => T[76]? = some (gw true (tp.val)) | 5 => T[77]? = some (gw true (pval ((cb x n (lft m) wh (P.take (k - 1))).2) tp)) | 6 => ∃ b : Nat, T[18]? = some (gw true (.pointer (some ⟨b, 0, none⟩))) ∧ BB v b 95 (pz) ∧ v13.heap.size ≤ b | 7 => ∃ b : Nat, T[18]? = some (gw true (.pointer (some ⟨b, 0, none⟩))) ∧ BB v b 95 (pcs ((cb x n (lft m) wh (P.take (k - 1))).2) tp) ∧ v13.heap.size ≤ b | _ => True) (fun (i : Nat) (T : Array Value) (v : World) => match i with | _ => True) (fun j T k => (j = 7 ∧ k = ptr T 18 ∧ v13.heap.size ≤ k)) (fun i => match i with | 0 => [72] | 1 => [73] | 2 => [74] | 3 => [75] | 4 => [76] | 5 => [77] | 6 => [18] | 7 => [18] | _ => []) (fun _ => []) [0, 1, 4, 8, 10, 11, 12, 13, 14, 15, 16, 17, 28, 57] (fun i j => (Nat.beq i 6 && Nat.beq j 7)) (fun i => Nat.beq i 6) (by kernel_rfl) (by kernel_rfl) q22.z ⟨(((((((((((((((Rp.nil q22.z).cons (q22.a 57 rfl)).cons (q22.a 28 rfl)).cons (q22.a 17 rfl)).cons (q22.a 16 rfl)).cons (q22.a 15 rfl)).cons (q22.a 14 rfl)).cons (q22.a 13 rfl)).cons (q22.a 12 rfl)).cons (q22.a 11 rfl)).cons (q22.a 10 rfl)).cons (q22.a 8 rfl)).cons (q22.a 4 rfl)).cons (q22.a 1 rfl)).cons (q22.a 0 rfl)), (Upd.refl _ _).drew20⟩ ?_ ?_ ?_ ?_ ?_ ?_
  · exact ⟨trivial, trivial, trivial, trivial, trivial, trivial, trivial, trivial, trivial⟩
  · intro j T T2 v v2 h _ hz hk hu
    exact ⟨h.1.ch hz hk, h.2.tr20 hu (fun k hk he => by have he2 : (j = 7 ∧ k = ptr T 18 ∧ v13.heap.size ≤ k) := he; show False; omega)⟩
  · refine ⟨?_, ?_, ?_, ?_, ?_, ?_, ?_, ?_, trivial⟩
    · exact fun j hj hu T T2 v v2 h hD hz hk zU => (hk 72 (List.mem_singleton.2 rfl)).trans h
    · exact fun j hj hu T T2 v v2 h hD hz hk zU => (hk 73 (List.mem_singleton.2 rfl)).trans h
    · exact fun j hj hu T T2 v v2 h hD hz hk zU => (hk 74 (List.mem_singleton.2 rfl)).trans h
    · exact fun j hj hu T T2 v v2 h hD hz hk zU => (hk 75 (List.mem_singleton.2 rfl)).trans h
    · exact fun j hj hu T T2 v v2 h hD hz hk zU => (hk 76 (List.mem_singleton.2 rfl)).trans h
    · exact fun j hj hu T T2 v v2 h hD hz hk zU => (hk 77 (List.mem_singleton.2 rfl)).trans h
    · intro j hj hu T T2 v v2 h hD hz hk zU
      obtain ⟨b, pb, Bb, lb⟩ := h
      have e1 : ptr T 18 = b := by unfold ptr; rw [pb]; rfl
      have n7 : j ≠ 7 := fun e => by subst e; exact absurd hu (by decide)
      exact ⟨b, (hk 18 (List.mem_singleton.2 rfl)).trans pb, Bb.upd zU (fun he => by have he2 : (j = 7 ∧ b = ptr T 18 ∧ v13.heap.size ≤ b) := he; omega), lb⟩
    · intro j hj hu T T2 v v2 h hD hz hk zU
      obtain ⟨b, pb, Bb, lb⟩ := h
      have e1 : ptr T 18 = b := by unfold ptr; rw [pb]; rfl
      exact ⟨b, (hk 18 (List.mem_singleton.2 rfl)).trans pb, Bb.upd zU (fun he => by have he2 : (j = 7 ∧ b = ptr T 18 ∧ v13.heap.size ≤ b) := he; omega), lb⟩
  · refine ⟨fun _ _ _ _ _ _ _ _ _ _ _ => trivial, fun _ _ _ _ _ _ _ _ _ _ _ => trivial, fun _ _ _ _ _ _ _ _ _ _ _ => trivial, fun _ _ _ _ _ _ _ _ _ _ _ => trivial, fun _ _ _ _ _ _ _ _ _ _ _ => trivial, fun _ _ _ _ _ _ _ _ _ _ _ => trivial, fun _ _ _ _ _ _ _ _ _ _ _ => trivial, fun _ _ _ _ _ _ _ _ _ _ _ => trivial, trivial⟩
  · refine ⟨?_, ?_, ?_, ?_, ?_, ?_, ?_, ?_, trivial⟩
    · intro T df v zz zB zp zC
      have qb := zB.1
      have zU := zB.2
      exact ⟨true, want_none rfl, fun _ => .inl ⟨_, _, ex_ld rfl (qb.e (j := 16) rfl) (Bb17.upd zU (show ¬ False from id)).ldH, Upd.refl _ _, fun h => absurd h (by decide), fun T2 N => N.s 72 rfl⟩, fun h => absurd h (by decide), fun h => absurd h (by decide)⟩
    · intro T df v zz zB zp zC
      have qb := zB.1
      have zU := zB.2
      exact ⟨true, want_none rfl, fun _ => .inl ⟨_, _, ex_move rfl (qb.e (j := 4) rfl), Upd.refl _ _, fun h => absurd h (by decide), fun T2 N => N.s 73 rfl⟩, fun h => absurd h (by decide), fun h => absurd h (by decide)⟩
    · intro T df v zz zB zp zC
      have qb := zB.1
      have zU := zB.2
      exact ⟨true, want_none rfl, fun _ => .inl ⟨_, _, ex_move rfl (qb.e (j := 14) rfl), Upd.refl _ _, fun h => absurd h (by decide), fun T2 N => N.s 74 rfl⟩, fun h => absurd h (by decide), fun h => absurd h (by decide)⟩
    · intro T df v zz zB zp zC
      have qb := zB.1
      have zU := zB.2
      have p1 : T[73]? = some (gw true (.slice (some ⟨kq10, ko11, none⟩) k c3)) := zp 1 (by kernel_rfl) (by kernel_rfl)
      have p2 : T[74]? = some (gw true (.int .i64 ((k - 1 : Nat) : Int))) := zp 2 (by kernel_rfl) (by kernel_rfl)
      exact ⟨true, want_none rfl, fun _ => .inl ⟨_, _, ex_ix rfl (ev p1 rfl) (ev p2 rfl) (ixH kq10 ko11 k c3 (k - 1) (by omega) _), Upd.refl _ _, fun h => absurd h (by decide), fun T2 N => N.s 75 rfl⟩, fun h => absurd h (by decide), fun h => absurd h (by decide)⟩
    · intro T df v zz zB zp zC
      have qb := zB.1
      have zU := zB.2
      have zDw : Below w.heap.size w v := d15.trans (zU.below d15.size (fun k hk => hk.elim))
      have p3 : T[75]? = some (gw true (.pointer (some ⟨kq10, ko11 + (k - 1) * 32, none⟩))) := zp 3 (by kernel_rfl) (by kernel_rfl)
      exact ⟨true, want_none rfl, fun _ => .inl ⟨_, _, ex_ld rfl (ev p3 rfl) (ldH20 (lkq10.upd (S := fun _ => False) (Upd.of_below zDw) hkq10 id) htp), Upd.refl _ _, fun h => absurd h (by decide), fun T2 N => N.s 76 rfl⟩, fun h => absurd h (by decide), fun h => absurd h (by decide)⟩
    · intro T df v zz zB zp zC
      have qb := zB.1
      have zU := zB.2
      have p0 : T[72]? = some (gw true (((cb x n (lft m) wh (P.take (k - 1))).2).val)) := zp 0 (by kernel_rfl) (by kernel_rfl)
      have p4 : T[76]? = some (gw true (tp.val)) := zp 4 (by kernel_rfl) (by kernel_rfl)
      exact ⟨true, want_none rfl, fun _ => .inl ⟨_, _, ex_bdP rfl (ev p0 rfl) (ev p4 rfl) (bdP _ _ _), Upd.refl _ _, fun h => absurd h (by decide), fun T2 N => N.s 77 rfl⟩, fun h => absurd h (by decide), fun h => absurd h (by decide)⟩
    · intro T df v zz zB zp zC
      have qb := zB.1
      have zU := zB.2
      exact ⟨_, want_none rfl, fun _ => .inl ⟨_, _, ex_al rfl (alP _), Upd.of_below ((Below.refl _ _).alloc (Nat.le_refl _) _), fun _ => ⟨_, rfl, Nat.le_refl _, by rw [World.size_alloc]; exact Nat.lt_succ_self _⟩, fun T2 N => ⟨_, N.s 18 rfl, BB.new _ _ _, zU.size⟩⟩, fun h => absurd h (by decide), fun h => absurd h (by decide)⟩
    · intro T df v zz zB zp zC
      have qb := zB.1
      have zU := zB.2
      have p5 : T[77]? = some (gw true (pval ((cb x n (lft m) wh (P.take (k - 1))).2) tp)) := zp 5 (by kernel_rfl) (by kernel_rfl)
      have p6 : ∃ b : Nat, T[18]? = some (gw true (.pointer (some ⟨b, 0, none⟩))) ∧ BB v b 95 (pz) ∧ v13.heap.size ≤ b := zp 6 (by kernel_rfl) (by kernel_rfl)
      obtain ⟨b, pb, Bb, lb⟩ := p6
      have e1 : ptr T 18 = b := by unfold ptr; rw [pb]; rfl
      exact ⟨_, want_none rfl, fun _ => .inr (.inl ⟨_, ex_st rfl (ev pb rfl) (ev p5 rfl) (Bb.stP rfl _ _), (upd18 _ _ _ _).sub20 (fun k hk => by have hk2 : k = b := hk; show (7 = 7 ∧ k = ptr T 18 ∧ v13.heap.size ≤ k); omega), fun h => absurd h (by decide), fun T2 N => ⟨b, (N.k 18 rfl).trans pb, Bb.whole _ (by rw [pcs_len]; rfl), lb⟩⟩), fun h => absurd h (by decide), fun h => absurd h (by decide)⟩
  intro T v18 zz zB zq za
  have qb := zB.1
  have U19 := zB.2
  clear zB zz
  clear q22
  have d20 : Below w.heap.size w v18 := d15.trans (U19.below (Nat.le_trans d15.size (Nat.le_refl _)) (fun k hk => hk.elim))
  have zv18 := U19.size
  obtain ⟨b21, p7, Bb21, lb21⟩ : ∃ b : Nat, T[18]? = some (gw true (.pointer (some ⟨b, 0, none⟩))) ∧ BB v18 b 95 (pcs ((cb x n (lft m) wh (P.take (k - 1))).2) tp) ∧ v13.heap.size ≤ b := zq 7 _ rfl (fun k => rfl)
  have ltb21 := Bb21.lt
  have q23 := (qb.cons p7)
  clear zq za qb p7
  go_upto_region 10 with fail
  have B22 : BB v18 b16 24 (((cb x n (lft m) wh (P.take (k - 1))).1).cs) := (Bb16.upd U19 (show ¬ False from id))
  have B23 : BB v18 w1.heap.size 24 (zH.cs) := (((Bw3.later bw5).upd U14 (show ¬ False from id)).upd U19 (show ¬ False from id))
  have B24 : BB v18 w3.heap.size 24 (zH.cs) := ((Bw5.upd U14 (show ¬ False from id)).upd U19 (show ¬ False from id))
  refine vp_start 154 (fun T v => Rp T 154 [(0, gw true (.slice a n c)), (1, gw true (.slice (some ⟨kq8, ko9, none⟩) m c2)), (4, gw true (.slice (some ⟨kq10, ko11, none⟩) k c3)), (8, gw true (.pointer (some ⟨w.heap.size, 0, none⟩))), (10, gw true (.pointer (some ⟨w1.heap.size, 0, none⟩))), (11, gw true (.pointer (some ⟨w3.heap.size, 0, none⟩))), (13, gw true (.int .i64 ((lft m : Nat) : Int))), (14, gw true (.int .i64 ((k - 1 : Nat) : Int))), (15, gw true (.pointer (some ⟨b16, 0, none⟩))), (17, gw true (.bool (F1))), (18, gw true (.pointer (some ⟨b21, 0, none⟩))), (28, gw true (.bool false)), (57, gw true (.bool true))] ∧ Upd (fun k => k = w1.heap.size ∨ k = w3.heap.size) v18 v) (fun (i : Nat) (T : Array Value) (v : World) => match i with | 0 => T[78]? = some (gw true (((cb x n (lft m) wh (P.take (k - 1))).1).val)) | 1 => T[79]? = some (gw true (.pointer (some ⟨b21, 0, none⟩))) | 2 => T[80]? = some (gw true (((cb x n (lft m) wh (P.take (k - 1))).2).val)) | 3 => T[81]? = some (gw true (.pointer (some ⟨b21, 32, none⟩))) | 4 => T[82]? = some (gw true (tp.val)) | 5 => T[83]? = some (gw true ((nd ((cb x n (lft m) wh (P.take (k - 1))).2) tp).val)) | 6 => T[84]? = some (gw true (.bool (F1))) | 7 => T[85]? = some (gw true (.bool (F1))) | 8 => T[86]? = some (gw (true && (F1 == false)) (pval ((cb x n (lft m) wh (P.take (k - 1))).2) tp)) | 9 => T[87]? = some (gw (true && (F1 == false)) (.slice (some ⟨kq8, ko9, none⟩) m c2)) | 10 => T[88]? = some (gw (true && (F1 == false)) (pval (hd ((B.map lf).take (lft m))) (hd ((B.map lf).drop (lft m))))) | 11 => T[89]? = some (gw (true && (F1 == false)) (.bool ((!(decide (((cb x n (lft m) wh (P.take (k - 1))).2).v = (hd ((B.map lf).take (lft m))).v) && decide (tp.v = (hd ((B.map lf).drop (lft m))).v))) && decide ((nd ((cb x n (lft m) wh (P.take (k - 1))).2) tp).v = (nd (hd ((B.map lf).take (lft m))) (hd ((B.map lf).drop (lft m)))).v)))) | 12 => T[90]? = some (gw true (.bool (F1 || ((!(decide (((cb x n (lft m) wh (P.take (k - 1))).2).v = (hd ((B.map lf).take (lft m))).v) && decide (tp.v = (hd ((B.map lf).drop (lft m))).v))) && decide ((nd ((cb x n (lft m) wh (P.take (k - 1))).2) tp).v = (nd (hd ((B.map lf).take (lft m))) (hd ((B.map lf).drop (lft m)))).v))))) | 13 => BB v w1.heap.size 24 (((cb x n (lft m) wh (P.take (k - 1))).1).cs) | 14 => BB v w3.heap.size 24 ((nd ((cb x n (lft m) wh (P.take (k - 1))).2) tp).cs) | 15 => T[12]? = some (gw true (.bool (F1 || ((!(decide (((cb x n (lft m) wh (P.take (k - 1))).2).v = (hd ((B.map lf).take (lft m))).v) && decide (tp.v = (hd ((B.map lf).drop (lft m))).v))) && decide ((nd ((cb x n (lft m) wh (P.take (k - 1))).2) tp).v = (nd (hd ((B.map lf).take (lft m))) (hd ((B.map lf).drop (lft m)))).v))))) | _ => True) (fun (i : Nat) (T : Array Value) (v : World) => match i with | 13 => BB v w1.heap.size 24 (zH.cs) | 14 => BB v w3.heap.size 24 (zH.cs) | _ => True) (fun j T k => (j = 13 ∧ k = w1.heap.size) ∨ (j = 14 ∧ k = w3.heap.size)) (fun i => match i with | 0 => [78] | 1 => [79] | 2 => [80] | 3 => [81] | 4 => [82] | 5 => [83] | 6 => [84] | 7 => [85] | 8 => [86] | 9 => [87] | 10 => [88] | 11 => [89] | 12 => [90] | 13 => [] | 14 => [] | 15 => [12] | _ => []) (fun _ => []) [0, 1, 4, 8, 10, 11, 13, 14, 15, 17, 18, 28, 57] (fun i j => false) (fun i => false) (by kernel_rfl) (by kernel_rfl) q23.z ⟨((((((((((((((Rp.nil q23.z).cons (q23.a 57 rfl)).cons (q23.a 28 rfl)).cons (q23.a 18 rfl)).cons (q23.a 17 rfl)).cons (q23.a 15 rfl)).cons (q23.a 14 rfl)).cons (q23.a 13 rfl)).cons (q23.a 11 rfl)).cons (q23.a 10 rfl)).cons (q23.a 8 rfl)).cons (q23.a 4 rfl)).cons (q23.a 1 rfl)).cons (q23.a 0 rfl)), (Upd.refl _ _).drew20⟩ ?_ ?_ ?_ ?_ ?_ ?_
  · exact ⟨trivial, trivial, trivial, trivial, trivial, trivial, trivial, trivial, trivial, trivial, trivial, trivial, trivial, B23.later (Below.refl _ _).drew, B24.later (Below.refl _ _).drew, trivial, trivial⟩
  · intro j T T2 v v2 h _ hz hk hu
    exact ⟨h.1.ch hz hk, h.2.tr20 hu (fun k hk he => by have he2 : (j = 13 ∧ k = w1.heap.size) ∨ (j = 14 ∧ k = w3.heap.size) := he; show k = w1.heap.size ∨ k = w3.heap.size; omega)⟩
  · refine ⟨?_, ?_, ?_, ?_, ?_, ?_, ?_, ?_, ?_, ?_, ?_, ?_, ?_, ?_, ?_, ?_, trivial⟩
    · exact fun j hj hu T T2 v v2 h hD hz hk zU => (hk 78 (List.mem_singleton.2 rfl)).trans h
    · exact fun j hj hu T T2 v v2 h hD hz hk zU => (hk 79 (List.mem_singleton.2 rfl)).trans h
    · exact fun j hj hu T T2 v v2 h hD hz hk zU => (hk 80 (List.mem_singleton.2 rfl)).trans h
    · exact fun j hj hu T T2 v v2 h hD hz hk zU => (hk 81 (List.mem_singleton.2 rfl)).trans h
    · exact fun j hj hu T T2 v v2 h hD hz hk zU => (hk 82 (List.mem_singleton.2 rfl)).trans h
    · exact fun j hj hu T T2 v v2 h hD hz hk zU => (hk 83 (List.mem_singleton.2 rfl)).trans h
    · exact fun j hj hu T T2 v v2 h hD hz hk zU => (hk 84 (List.mem_singleton.2 rfl)).trans h
    · exact fun j hj hu T T2 v v2 h hD hz hk zU => (hk 85 (List.mem_singleton.2 rfl)).trans h
    · exact fun j hj hu T T2 v v2 h hD hz hk zU => (hk 86 (List.mem_singleton.2 rfl)).trans h
    · exact fun j hj hu T T2 v v2 h hD hz hk zU => (hk 87 (List.mem_singleton.2 rfl)).trans h
    · exact fun j hj hu T T2 v v2 h hD hz hk zU => (hk 88 (List.mem_singleton.2 rfl)).trans h
    · exact fun j hj hu T T2 v v2 h hD hz hk zU => (hk 89 (List.mem_singleton.2 rfl)).trans h
    · exact fun j hj hu T T2 v v2 h hD hz hk zU => (hk 90 (List.mem_singleton.2 rfl)).trans h
    · intro j hj hu T T2 v v2 h hD hz hk zU
      exact BB.upd h zU (fun he => by have he2 : (j = 13 ∧ w1.heap.size = w1.heap.size) ∨ (j = 14 ∧ w1.heap.size = w3.heap.size) := he; omega)
    · intro j hj hu T T2 v v2 h hD hz hk zU
      exact BB.upd h zU (fun he => by have he2 : (j = 13 ∧ w3.heap.size = w1.heap.size) ∨ (j = 14 ∧ w3.heap.size = w3.heap.size) := he; omega)
    · exact fun j hj hu T T2 v v2 h hD hz hk zU => (hk 12 (List.mem_singleton.2 rfl)).trans h
  · refine ⟨fun _ _ _ _ _ _ _ _ _ _ _ => trivial, fun _ _ _ _ _ _ _ _ _ _ _ => trivial, fun _ _ _ _ _ _ _ _ _ _ _ => trivial, fun _ _ _ _ _ _ _ _ _ _ _ => trivial, fun _ _ _ _ _ _ _ _ _ _ _ => trivial, fun _ _ _ _ _ _ _ _ _ _ _ => trivial, fun _ _ _ _ _ _ _ _ _ _ _ => trivial, fun _ _ _ _ _ _ _ _ _ _ _ => trivial, fun _ _ _ _ _ _ _ _ _ _ _ => trivial, fun _ _ _ _ _ _ _ _ _ _ _ => trivial, fun _ _ _ _ _ _ _ _ _ _ _ => trivial, fun _ _ _ _ _ _ _ _ _ _ _ => trivial, fun _ _ _ _ _ _ _ _ _ _ _ => trivial, ?_, ?_, fun _ _ _ _ _ _ _ _ _ _ _ => trivial, trivial⟩
    · exact fun j hj T T2 v v2 h _ hz hk zU => BB.upd h zU (fun he => by have he2 : (j = 13 ∧ w1.heap.size = w1.heap.size) ∨ (j = 14 ∧ w1.heap.size = w3.heap.size) := he; omega)
    · exact fun j hj T T2 v v2 h _ hz hk zU => BB.upd h zU (fun he => by have he2 : (j = 13 ∧ w3.heap.size = w1.heap.size) ∨ (j = 14 ∧ w3.heap.size = w3.heap.size) := he; omega)
  · refine ⟨?_, ?_, ?_, ?_, ?_, ?_, ?_, ?_, ?_, ?_, ?_, ?_, ?_, ?_, ?_, ?_, trivial⟩
    · intro T df v zz zB zp zC
      have qb := zB.1
      have zU := zB.2
      exact ⟨true, want_none rfl, fun _ => .inl ⟨_, _, ex_ld rfl (qb.e (j := 15) rfl) (B22.upd zU (show ¬ (b16 = w1.heap.size ∨ b16 = w3.heap.size) by omega)).ldH, Upd.refl _ _, fun h => absurd h (by decide), fun T2 N => N.s 78 rfl⟩, fun h => absurd h (by decide), fun h => absurd h (by decide)⟩
    · intro T df v zz zB zp zC
      have qb := zB.1
      have zU := zB.2
      exact ⟨true, want_none rfl, fun _ => .inl ⟨_, _, ex_fa rfl (qb.e (j := 18) rfl) (faP _ _ _ (.inl ⟨rfl, rfl⟩) _), Upd.refl _ _, fun h => absurd h (by decide), fun T2 N => N.s 79 rfl⟩, fun h => absurd h (by decide), fun h => absurd h (by decide)⟩
    · intro T df v zz zB zp zC
      have qb := zB.1
      have zU := zB.2
      have p1 : T[79]? = some (gw true (.pointer (some ⟨b21, 0, none⟩))) := zp 1 (by kernel_rfl) (by kernel_rfl)
      exact ⟨true, want_none rfl, fun _ => .inl ⟨_, _, ex_ld rfl (ev p1 rfl) (Bb21.upd zU (show ¬ (b21 = w1.heap.size ∨ b21 = w3.heap.size) by omega)).ldA, Upd.refl _ _, fun h => absurd h (by decide), fun T2 N => N.s 80 rfl⟩, fun h => absurd h (by decide), fun h => absurd h (by decide)⟩
    · intro T df v zz zB zp zC
      have qb := zB.1
      have zU := zB.2
      exact ⟨true, want_none rfl, fun _ => .inl ⟨_, _, ex_fa rfl (qb.e (j := 18) rfl) (faP _ _ _ (.inr ⟨rfl, rfl⟩) _), Upd.refl _ _, fun h => absurd h (by decide), fun T2 N => N.s 81 rfl⟩, fun h => absurd h (by decide), fun h => absurd h (by decide)⟩
    · intro T df v zz zB zp zC
      have qb := zB.1
      have zU := zB.2
      have p3 : T[81]? = some (gw true (.pointer (some ⟨b21, 32, none⟩))) := zp 3 (by kernel_rfl) (by kernel_rfl)
      exact ⟨true, want_none rfl, fun _ => .inl ⟨_, _, ex_ld rfl (ev p3 rfl) (Bb21.upd zU (show ¬ (b21 = w1.heap.size ∨ b21 = w3.heap.size) by omega)).ldB, Upd.refl _ _, fun h => absurd h (by decide), fun T2 N => N.s 82 rfl⟩, fun h => absurd h (by decide), fun h => absurd h (by decide)⟩
    · intro T df v zz zB zp zC
      have qb := zB.1
      have zU := zB.2
      have p2 : T[80]? = some (gw true (((cb x n (lft m) wh (P.take (k - 1))).2).val)) := zp 2 (by kernel_rfl) (by kernel_rfl)
      have p4 : T[82]? = some (gw true (tp.val)) := zp 4 (by kernel_rfl) (by kernel_rfl)
      refine ⟨true, want_none rfl, fun hc => .inr (.inr ⟨_, _, _, ex_call rfl (by simp only [List.map_toArray, List.map_cons, List.map_nil, (ev p2 rfl), (ev p4 rfl), evc] <;> rfl) rfl, node20 ((cb x n (lft m) wh (P.take (k - 1))).2) tp v, ?_⟩), fun _ => rfl, fun h => absurd h (by decide)⟩
      rintro e w9 ⟨rfl, b9⟩
      exact ⟨_, rfl, Upd.of_below b9, fun h => absurd h (by decide), fun T2 N => N.s 83 rfl⟩
    · intro T df v zz zB zp zC
      have qb := zB.1
      have zU := zB.2
      exact ⟨true, want_none rfl, fun _ => .inl ⟨_, _, ex_move rfl (qb.e (j := 17) rfl), Upd.refl _ _, fun h => absurd h (by decide), fun T2 N => N.s 84 rfl⟩, fun h => absurd h (by decide), fun h => absurd h (by decide)⟩
    · intro T df v zz zB zp zC
      have qb := zB.1
      have zU := zB.2
      have p6 : T[84]? = some (gw true (.bool (F1))) := zp 6 (by kernel_rfl) (by kernel_rfl)
      exact ⟨true, want_none rfl, fun _ => .inl ⟨_, _, ex_move rfl (ev p6 rfl), Upd.refl _ _, fun h => absurd h (by decide), fun T2 N => N.s 85 rfl⟩, fun h => absurd h (by decide), fun h => absurd h (by decide)⟩
    · intro T df v zz zB zp zC
      have qb := zB.1
      have zU := zB.2
      have p7 : T[85]? = some (gw true (.bool (F1))) := zp 7 (by kernel_rfl) (by kernel_rfl)
      exact ⟨(true && (F1 == false)), want_g rfl rfl p7, fun hc => .inl ⟨_, _, ex_ld rfl (qb.e (j := 18) rfl) (Bb21.upd zU (show ¬ (b21 = w1.heap.size ∨ b21 = w3.heap.size) by omega)).ldP, Upd.refl _ _, fun h => absurd h (by decide), fun T2 N => by rw [hc]; exact N.s 86 rfl⟩, fun _ => rfl, fun hc T2 N => by rw [hc]; exact N.s 86 rfl⟩
    · intro T df v zz zB zp zC
      have qb := zB.1
      have zU := zB.2
      have p7 : T[85]? = some (gw true (.bool (F1))) := zp 7 (by kernel_rfl) (by kernel_rfl)
      exact ⟨(true && (F1 == false)), want_g rfl rfl p7, fun hc => .inl ⟨_, _, ex_move rfl (qb.e (j := 1) rfl), Upd.refl _ _, fun h => absurd h (by decide), fun T2 N => by rw [hc]; exact N.s 87 rfl⟩, fun _ => rfl, fun hc T2 N => by rw [hc]; exact N.s 87 rfl⟩
    · intro T df v zz zB zp zC
      have qb := zB.1
      have zU := zB.2
      have zDw : Below w.heap.size w v := d20.trans (zU.below d20.size (fun k hk => by have hk2 : k = w1.heap.size ∨ k = w3.heap.size := hk; omega))
      have p7 : T[85]? = some (gw true (.bool (F1))) := zp 7 (by kernel_rfl) (by kernel_rfl)
      have p9 : T[87]? = some (gw (true && (F1 == false)) (.slice (some ⟨kq8, ko9, none⟩) m c2)) := zp 9 (by kernel_rfl) (by kernel_rfl)
      refine ⟨(true && (F1 == false)), want_g rfl rfl p7, fun hc => .inr (.inr ⟨_, _, _, ex_call rfl (by simp only [List.map_toArray, List.map_cons, List.map_nil, (ev p9 hc), evc] <;> rfl) rfl, halves20 _ _ _ _ v (hB.later zDw) (by omega) (by omega) hvB, ?_⟩), fun _ => rfl, fun hc T2 N => by rw [hc]; exact N.s 88 rfl⟩
      rintro e w9 ⟨rfl, b9⟩
      exact ⟨_, rfl, Upd.of_below b9, fun h => absurd h (by decide), fun T2 N => by rw [hc]; exact N.s 88 rfl⟩
    · intro T df v zz zB zp zC
      have qb := zB.1
      have zU := zB.2
      have p7 : T[85]? = some (gw true (.bool (F1))) := zp 7 (by kernel_rfl) (by kernel_rfl)
      have p8 : T[86]? = some (gw (true && (F1 == false)) (pval ((cb x n (lft m) wh (P.take (k - 1))).2) tp)) := zp 8 (by kernel_rfl) (by kernel_rfl)
      have p10 : T[88]? = some (gw (true && (F1 == false)) (pval (hd ((B.map lf).take (lft m))) (hd ((B.map lf).drop (lft m))))) := zp 10 (by kernel_rfl) (by kernel_rfl)
      refine ⟨(true && (F1 == false)), want_g rfl rfl p7, fun hc => .inr (.inr ⟨_, _, _, ex_call rfl (by simp only [List.map_toArray, List.map_cons, List.map_nil, (ev p8 hc), (ev p10 hc), evc] <;> rfl) rfl, one20 ((cb x n (lft m) wh (P.take (k - 1))).2) tp (hd ((B.map lf).take (lft m))) (hd ((B.map lf).drop (lft m))) v, ?_⟩), fun _ => rfl, fun hc T2 N => by rw [hc]; exact N.s 89 rfl⟩
      rintro e w9 ⟨rfl, b9⟩
      exact ⟨_, rfl, Upd.of_below b9, fun h => absurd h (by decide), fun T2 N => by rw [hc]; exact N.s 89 rfl⟩
    · intro T df v zz zB zp zC
      have qb := zB.1
      have zU := zB.2
      have p7 : T[85]? = some (gw true (.bool (F1))) := zp 7 (by kernel_rfl) (by kernel_rfl)
      have p11 : T[89]? = some (gw (true && (F1 == false)) (.bool ((!(decide (((cb x n (lft m) wh (P.take (k - 1))).2).v = (hd ((B.map lf).take (lft m))).v) && decide (tp.v = (hd ((B.map lf).drop (lft m))).v))) && decide ((nd ((cb x n (lft m) wh (P.take (k - 1))).2) tp).v = (nd (hd ((B.map lf).take (lft m))) (hd ((B.map lf).drop (lft m)))).v)))) := zp 11 (by kernel_rfl) (by kernel_rfl)
      exact ⟨true, want_none rfl, fun _ => .inl ⟨_, _, ex_or (c := true) (b := F1) (z := ((!(decide (((cb x n (lft m) wh (P.take (k - 1))).2).v = (hd ((B.map lf).take (lft m))).v) && decide (tp.v = (hd ((B.map lf).drop (lft m))).v))) && decide ((nd ((cb x n (lft m) wh (P.take (k - 1))).2) tp).v = (nd (hd ((B.map lf).take (lft m))) (hd ((B.map lf).drop (lft m)))).v))) rfl p7 p11 rfl, Upd.refl _ _, fun h => absurd h (by decide), fun T2 N => N.s 90 rfl⟩, fun h => absurd h (by decide), fun h => absurd h (by decide)⟩
    · intro T df v zz zB zp zC
      have qb := zB.1
      have zU := zB.2
      have p0 : T[78]? = some (gw true (((cb x n (lft m) wh (P.take (k - 1))).1).val)) := zp 0 (by kernel_rfl) (by kernel_rfl)
      have hq : BB v w1.heap.size 24 (zH.cs) := zC 13 _ rfl (.inl rfl)
      exact ⟨_, want_none rfl, fun _ => .inr (.inl ⟨_, ex_st rfl (qb.e (j := 10) rfl) (ev p0 rfl) (hq.stH rfl _), (upd18 _ _ _ _).sub20 (fun k hk => by have hk2 : k = w1.heap.size := hk; show (13 = 13 ∧ k = w1.heap.size) ∨ (13 = 14 ∧ k = w3.heap.size); omega), fun h => absurd h (by decide), fun T2 N => hq.putH rfl _⟩), fun h => absurd h (by decide), fun h => absurd h (by decide)⟩
    · intro T df v zz zB zp zC
      have qb := zB.1
      have zU := zB.2
      have p5 : T[83]? = some (gw true ((nd ((cb x n (lft m) wh (P.take (k - 1))).2) tp).val)) := zp 5 (by kernel_rfl) (by kernel_rfl)
      have hq : BB v w3.heap.size 24 (zH.cs) := zC 14 _ rfl (.inl rfl)
      exact ⟨_, want_none rfl, fun _ => .inr (.inl ⟨_, ex_st rfl (qb.e (j := 11) rfl) (ev p5 rfl) (hq.stH rfl _), (upd18 _ _ _ _).sub20 (fun k hk => by have hk2 : k = w3.heap.size := hk; show (14 = 13 ∧ k = w1.heap.size) ∨ (14 = 14 ∧ k = w3.heap.size); omega), fun h => absurd h (by decide), fun T2 N => hq.putH rfl _⟩), fun h => absurd h (by decide), fun h => absurd h (by decide)⟩
    · intro T df v zz zB zp zC
      have qb := zB.1
      have zU := zB.2
      have p12 : T[90]? = some (gw true (.bool (F1 || ((!(decide (((cb x n (lft m) wh (P.take (k - 1))).2).v = (hd ((B.map lf).take (lft m))).v) && decide (tp.v = (hd ((B.map lf).drop (lft m))).v))) && decide ((nd ((cb x n (lft m) wh (P.take (k - 1))).2) tp).v = (nd (hd ((B.map lf).take (lft m))) (hd ((B.map lf).drop (lft m)))).v))))) := zp 12 (by kernel_rfl) (by kernel_rfl)
      exact ⟨true, want_none rfl, fun _ => .inl ⟨_, _, ex_assign rfl (ev p12 rfl), Upd.refl _ _, fun h => absurd h (by decide), fun T2 N => N.s 12 rfl⟩, fun h => absurd h (by decide), fun h => absurd h (by decide)⟩
  intro T v25 zz zB zq za
  have qb := zB.1
  have U26 := zB.2
  clear zB zz
  clear q23
  have d27 : Below w.heap.size w v25 := d20.trans (U26.below (Nat.le_trans d20.size (Nat.le_refl _)) (fun k hk => by have hk2 : k = w1.heap.size ∨ k = w3.heap.size := hk; omega))
  have zv25 := U26.size
  have B28 : BB v25 w1.heap.size 24 (((cb x n (lft m) wh (P.take (k - 1))).1).cs) := zq 13 _ rfl (fun k => rfl)
  have B29 : BB v25 w3.heap.size 24 ((nd ((cb x n (lft m) wh (P.take (k - 1))).2) tp).cs) := zq 14 _ rfl (fun k => rfl)
  have p15 : T[12]? = some (gw true (.bool (F1 || ((!(decide (((cb x n (lft m) wh (P.take (k - 1))).2).v = (hd ((B.map lf).take (lft m))).v) && decide (tp.v = (hd ((B.map lf).drop (lft m))).v))) && decide ((nd ((cb x n (lft m) wh (P.take (k - 1))).2) tp).v = (nd (hd ((B.map lf).take (lft m))) (hd ((B.map lf).drop (lft m)))).v))))) := zq 15 _ rfl (fun k => rfl)
  have q24 := (qb.cons p15)
  clear zq za qb p15
  go_wp2
  exact bodyPost_ret (resHHT20 rfl (q24.a 10 rfl) (q24.a 11 rfl) (q24.a 12 rfl) B28 B29) rfl ⟨rfl, d27⟩
def stR (A B : List En) (x : Hs) (P : List Hs) (tp : Hs) (n m k : Nat) (F1 : Bool) : Bool := (F1 || ((!(decide (tp.v = (hd ((A.map lf).take (lft n))).v) && decide (((cb x (n - lft m) (m - lft m) false (P.take (k - 1))).1).v = (hd ((A.map lf).drop (lft n))).v))) && decide ((nd tp ((cb x (n - lft m) (m - lft m) false (P.take (k - 1))).1)).v = (nd (hd ((A.map lf).take (lft n))) (hd ((A.map lf).drop (lft n)))).v))) || ((!(decide (tp.v = (hd ((B.map lf).take (lft m))).v) && decide (((cb x (n - lft m) (m - lft m) false (P.take (k - 1))).2).v = (hd ((B.map lf).drop (lft m))).v))) && decide ((nd tp ((cb x (n - lft m) (m - lft m) false (P.take (k - 1))).2)).v = (nd (hd ((B.map lf).take (lft m))) (hd ((B.map lf).drop (lft m)))).v))
set_option maxHeartbeats 2000000 in
theorem steps_r (A B : List En) (n m : Nat) (wh : Bool) (x tp : Hs) (P : List Hs) (k : Nat) (htp : P[k - 1]? = some tp) (hk : 1 ≤ k) (hk2 : k ≤ 1000000000) (F1 : Bool) (c1 : ∀ (a : Option Addr) (c : Nat) (a2 : Option Addr) (c2 : Nat) (a3 : Option Addr) (c3 : Nat) (w : World), SlY yE w a (n - lft m) c (A.drop (lft m)) → SlY yE w a2 (m - lft m) c2 (B.drop (lft m)) → SlY yH w a3 (k - 1) c3 (P.take (k - 1)) → Calls Try.prog 35 #[.slice a (n - lft m) c, .slice a2 (m - lft m) c2, .bool false, x.val, .slice a3 (k - 1) c3] w fun e w' => e = .returned (.tuple #[(cb x (n - lft m) (m - lft m) false (P.take (k - 1))).1.val, (cb x (n - lft m) (m - lft m) false (P.take (k - 1))).2.val, .bool F1]) ∧ Below w.heap.size w w') (a : Option Addr) (c : Nat) (a2 : Option Addr) (c2 : Nat) (a3 : Option Addr) (c3 : Nat) (w : World) (hA : SlY yE w a n c A) (hB : SlY yE w a2 m c2 B) (hP : SlY yH w a3 k c3 P) (hn1 : lft m < n) (hnm : n < m) (hm2 : 2 ≤ m) (hm : m ≤ 1000000) (hvA : ∀ x ∈ A, x.o.v.size ≤ 140737488352232) (hvB : ∀ x ∈ B, x.o.v.size ≤ 140737488352232) :
    Calls Try.prog 35 #[.slice a n c, .slice a2 m c2, .bool wh, x.val, .slice a3 k c3] w fun e w' => e = .returned (.tuple #[(nd tp (cb x (n - lft m) (m - lft m) false (P.take (k - 1))).1).val, (nd tp (cb x (n - lft m) (m - lft m) false (P.take (k - 1))).2).val, .bool ((stR A B x P tp n m k F1) || (decide (MtP tp (A.take (lft m)) (B.take (lft m)))))]) ∧ Below w.heap.size w w' := by
  have hb := lft_b (n := m) (by omega)
  go_enter Try.func35, Try.ntmps35
  go_upto_region 0 with fail
  refine wp_region_lit ?_
  refine vl_gen (fun T => Rp T 154 [(4, gw true (.slice a3 k c3)), (3, gw true (x.val)), (2, gw true (.bool (wh))), (1, gw true (.slice a2 m c2)), (0, gw true (.slice a n c))]) ((((((Rp.nil rfl).cons rfl).cons rfl).cons rfl).cons rfl).cons rfl) (fun Z0 q0 => ?_)
  obtain ⟨w1, hw1⟩ : ∃ y, y = w.alloc (.cells (x.cs).toArray 24) := ⟨_, rfl⟩
  refine vw (.pointer (some ⟨w.heap.size, 0, none⟩)) w1 (want_none rfl) (ex_box18 rfl (q0.e (j := 3) rfl) (by rw [hw1]; exact bxH20 _ _)) rfl q0.z (by decide) (q0.k fun _ q1 => ?_);clear q0
  have Bw1 : BB w1 w.heap.size 24 (x.cs) := by rw [hw1]; exact BB.new _ _ _
  have bw1 : Below w.heap.size w w1 := by rw [hw1]; exact (Below.refl _ _).alloc (Nat.le_refl _) _
  have zw1 : w1.heap.size = w.heap.size + 1 := by rw [hw1]; exact World.size_alloc _ _
  clear hw1
  have d2 : Below w.heap.size w w1 := bw1
  obtain ⟨w3, hw3⟩ : ∃ y, y = w1.alloc (.cells (zH.cs).toArray 24) := ⟨_, rfl⟩
  refine vw (.pointer (some ⟨w1.heap.size, 0, none⟩)) w3 (want_none rfl) (ex_al rfl (by rw [hw3]; exact alH _)) rfl q1.z (by decide) (q1.k fun _ q2 => ?_);clear q1
  have Bw3 : BB w3 w1.heap.size 24 (zH.cs) := by rw [hw3]; exact BB.new _ _ _
  have bw3 : Below w1.heap.size w1 w3 := by rw [hw3]; exact (Below.refl _ _).alloc (Nat.le_refl _) _
  have zw3 : w3.heap.size = w1.heap.size + 1 := by rw [hw3]; exact World.size_alloc _ _
  clear hw3
  have d4 : Below w.heap.size w w3 := d2.trans (bw3.mono d2.size)
  obtain ⟨w5, hw5⟩ : ∃ y, y = w3.alloc (.cells (zH.cs).toArray 24) := ⟨_, rfl⟩
  refine vw (.pointer (some ⟨w3.heap.size, 0, none⟩)) w5 (want_none rfl) (ex_al rfl (by rw [hw5]; exact alH _)) rfl q2.z (by decide) (q2.k fun _ q3 => ?_);clear q2
  have Bw5 : BB w5 w3.heap.size 24 (zH.cs) := by rw [hw5]; exact BB.new _ _ _
  have bw5 : Below w3.heap.size w3 w5 := by rw [hw5]; exact (Below.refl _ _).alloc (Nat.le_refl _) _
  have zw5 : w5.heap.size = w3.heap.size + 1 := by rw [hw5]; exact World.size_alloc _ _
  clear hw5
  have d6 : Below w.heap.size w w5 := d4.trans (bw5.mono d4.size)
  refine q3.t (.bool false) (ex_assign rfl rfl) fun _ q4 => ?_;clear q3
  refine wpList_nil ?_
  go_upto_region 1 with fail
  refine wp_region_lit ?_
  refine q4.t (.slice a n c) (ex_move rfl (q4.e (j := 0) rfl)) fun _ q5 => ?_;clear q4
  refine q5.t (.int .i64 ((n : Nat) : Int)) (ex_lenG rfl rfl Try.underlying22 (q5.e (j := 24) rfl)) fun _ q6 => ?_;clear q5
  refine q6.t (.slice a2 m c2) (ex_move rfl (q6.e (j := 1) rfl)) fun _ q7 => ?_;clear q6
  refine q7.t (.int .i64 ((m : Nat) : Int)) (ex_lenG rfl rfl Try.underlying22 (q7.e (j := 26) rfl)) fun _ q8 => ?_;clear q7
  refine q8.t (.bool false) (ex_bin rfl (q8.e (j := 25) rfl) (q8.e (j := 27) rfl) (eqF20 _ _ (by omega) _)) fun _ q9 => ?_;clear q8
  refine wpList_nil ?_
  go_upto_region 5 with fail
  refine wp_cond_false (q9.e (j := 28) rfl) ?_
  go_upto_region 5 with fail
  refine wp_region_lit ?_
  refine q9.t (.slice a2 m c2) (ex_move rfl (q9.e (j := 1) rfl)) fun _ q10 => ?_;clear q9
  refine q10.t (.int .i64 ((m : Nat) : Int)) (ex_lenG rfl rfl Try.underlying22 (q10.e (j := 48) rfl)) fun _ q11 => ?_;clear q10
  refine vcallP (want_none rfl) (ex_call rfl (by simp only [List.map_toArray, List.map_cons, List.map_nil, (q11.e (j := 49) rfl), evc] <;> rfl) rfl) (split20 m (by omega) (by omega) w5) rfl q11.z (by decide) ?_
  rintro e w7 ⟨rfl, hw7⟩
  refine ⟨_, rfl, q11.k fun _ q12 => ?_⟩;clear q11
  have hw7 := hw7.symm
  subst hw7
  refine q12.t (.int .i64 ((lft m : Nat) : Int)) (ex_assign rfl (q12.e (j := 50) rfl)) fun _ q13 => ?_;clear q12
  refine wpList_nil ?_
  have lA := hA.len
  have lB := hB.len
  have lP := hP.len
  obtain ⟨kq8, ko9, rfl, hkq8, lkq8⟩ := hA.place (by rintro rfl; simp at lA; omega)
  have ckq8 := hA.cap
  obtain ⟨kq10, ko11, rfl, hkq10, lkq10⟩ := hB.place (by rintro rfl; simp at lB; omega)
  have ckq10 := hB.cap
  obtain ⟨kq12, ko13, rfl, hkq12, lkq12⟩ := hP.place (by rintro rfl; simp at htp)
  have ckq12 := hP.cap
  go_upto_region 6 with fail
  refine wp_region_lit ?_
  refine q13.t (.slice (some ⟨kq12, ko13, none⟩) k c3) (ex_move rfl (q13.e (j := 4) rfl)) fun _ q14 => ?_;clear q13
  refine q14.t (.int .i64 ((k : Nat) : Int)) (ex_lenG rfl rfl Try.underlying42 (q14.e (j := 51) rfl)) fun _ q15 => ?_;clear q14
  refine q15.t (.int .i64 ((k - 1 : Nat) : Int)) (ex_bin (Y := .int .i64 ((1 : Nat) : Int)) rfl (q15.e (j := 52) rfl) rfl (subP _ _ k 1 (by omega) (by omega) _)) fun _ q16 => ?_;clear q15
  refine q16.t (.int .i64 ((k - 1 : Nat) : Int)) (ex_assign rfl (q16.e (j := 53) rfl)) fun _ q17 => ?_;clear q16
  refine wpList_nil ?_
  go_upto_region 7 with fail
  refine wp_region_lit ?_
  refine q17.t (.slice (some ⟨kq8, ko9, none⟩) n c) (ex_move rfl (q17.e (j := 0) rfl)) fun _ q18 => ?_;clear q17
  refine q18.t (.int .i64 ((n : Nat) : Int)) (ex_lenG rfl rfl Try.underlying22 (q18.e (j := 54) rfl)) fun _ q19 => ?_;clear q18
  refine q19.t (.int .i64 ((lft m : Nat) : Int)) (ex_move rfl (q19.e (j := 13) rfl)) fun _ q20 => ?_;clear q19
  refine q20.t (.bool false) (ex_bin rfl (q20.e (j := 55) rfl) (q20.e (j := 56) rfl) (leF20 _ _ (by omega) _)) fun _ q21 => ?_;clear q20
  refine wpList_nil ?_
  go_upto_region 11 with fail
  refine wp_cond_false (q21.e (j := 57) rfl) ?_
  go_upto_region 11 with fail
  have B14 : BB w5 w.heap.size 24 (x.cs) := ((Bw1.later bw3).later bw5)
  refine vp_start 154 (fun T v => Rp T 154 [(0, gw true (.slice (some ⟨kq8, ko9, none⟩) n c)), (1, gw true (.slice (some ⟨kq10, ko11, none⟩) m c2)), (4, gw true (.slice (some ⟨kq12, ko13, none⟩) k c3)), (8, gw true (.pointer (some ⟨w.heap.size, 0, none⟩))), (10, gw true (.pointer (some ⟨w1.heap.size, 0, none⟩))), (11, gw true (.pointer (some ⟨w3.heap.size, 0, none⟩))), (12, gw true (.bool false)), (13, gw true (.int .i64 ((lft m : Nat) : Int))), (14, gw true (.int .i64 ((k - 1 : Nat) : Int))), (28, gw true (.bool false)), (57, gw true (.bool false))] ∧ Upd (fun k => False) w5 v) (fun (i : Nat) (T : Array Value) (v : World) => match i with | 0 => T[92]? = some (gw true (.slice (some ⟨kq8, ko9, none⟩) n c)) | 1 => T[93]? = some (gw true (.int .i64 ((lft m : Nat) : Int))) | 2 => T[94]? = some (gw true (.slice (some (if c = lft m then ⟨kq8, ko9, none⟩ else ⟨kq8, ko9 + (lft m) * 5, none⟩)) (n - (lft m)) (c - (lft m)))) | 3 => T[95]? = some (gw true (.slice (some ⟨kq10, ko11, none⟩) m c2)) | 4 => T[96]? = some (gw true (.int .i64 ((lft m : Nat) : Int))) | 5 => T[97]? = some (gw true (.slice (some (if c2 = lft m then ⟨kq10, ko11, none⟩ else ⟨kq10, ko11 + (lft m) * 5, none⟩)) (m - (lft m)) (c2 - (lft m)))) | 6 => T[98]? = some (gw true (x.val)) | 7 => T[99]? = some (gw true (.slice (some ⟨kq12, ko13, none⟩) k c3)) | 8 => T[100]? = some (gw true (.int .i64 ((k - 1 : Nat) : Int))) | 9 => T[101]? = some (gw true (.slice (some ⟨kq12, ko13, none⟩) (k - 1) c3)) | 10 => T[102]? = some (gw true (.tuple #[((cb x (n - lft m) (m - lft m) false (P.take (k - 1))).1).val, ((cb x (n - lft m) (m - lft m) false (P.take (k - 1))).2).val, .bool (F1)])) | 11 => T[91]? = some (gw true (.tuple #[((cb x (n - lft m) (m - lft m) false (P.take (k - 1))).1).val, ((cb x (n - lft m) (m - lft m) false (P.take (k - 1))).2).val, .bool (F1)])) | 12 => T[103]? = some (gw true (((cb x (n - lft m) (m - lft m) false (P.take (k - 1))).1).val)) | 13 => T[104]? = some (gw true (((cb x (n - lft m) (m - lft m) false (P.take (k - 1))).2).val)) | 14 => T[105]? = some (gw true (.bool (F1))) | 15 => ∃ b : Nat, T[19]? = some (gw true (.pointer (some ⟨b, 0, none⟩))) ∧ BB v b 24 (zH.cs) ∧ w5.heap.size ≤ b | 16 => ∃ b : Nat, T[20]? = some (gw true (.pointer (some ⟨b, 0, none⟩))) ∧ BB v b 24 (zH.cs) ∧ w5.heap.size ≤ b | 17 => ∃ b : Nat, T[19]? = some (gw true (.pointer (some ⟨b, 0, none⟩))) ∧ BB v b 24 (((cb x (n - lft m) (m - lft m) false (P.take (k - 1))).1).cs) ∧ w5.heap.size ≤ b | 18 => ∃ b : Nat, T[20]? = some (gw true (.pointer (some ⟨b, 0, none⟩))) ∧ BB v b 24 (((cb x (n - lft m) (m - lft m) false (P.take (k - 1))).2).cs) ∧ w5.heap.size ≤ b | 19 => T[21]? = some (gw true (.bool (F1))) | _ => True) (fun (i : Nat) (T : Array Value) (v : World) => match i with | _ => True) (fun j T k => (j = 17 ∧ k = ptr T 19 ∧ w5.heap.size ≤ k) ∨ (j = 18 ∧ k = ptr T 20 ∧ w5.heap.size ≤ k)) (fun i => match i with | 0 => [92] | 1 => [93] | 2 => [94] | 3 => [95] | 4 => [96] | 5 => [97] | 6 => [98] | 7 => [99] | 8 => [100] | 9 => [101] | 10 => [102] | 11 => [91] | 12 => [103] | 13 => [104] | 14 => [105] | 15 => [19] | 16 => [20] | 17 => [19] | 18 => [20] | 19 => [21] | _ => []) (fun _ => []) [0, 1, 4, 8, 10, 11, 12, 13, 14, 28, 57] (fun i j => (Nat.beq i 15 && Nat.beq j 17) || (Nat.beq i 16 && Nat.beq j 18)) (fun i => Nat.beq i 15 || Nat.beq i 16) (by kernel_rfl) (by kernel_rfl) q21.z ⟨((((((((((((Rp.nil q21.z).cons (q21.a 57 rfl)).cons (q21.a 28 rfl)).cons (q21.a 14 rfl)).cons (q21.a 13 rfl)).cons (q21.a 12 rfl)).cons (q21.a 11 rfl)).cons (q21.a 10 rfl)).cons (q21.a 8 rfl)).cons (q21.a 4 rfl)).cons (q21.a 1 rfl)).cons (q21.a 0 rfl)), (Upd.refl _ _).drew20⟩ ?_ ?_ ?_ ?_ ?_ ?_
  · exact ⟨trivial, trivial, trivial, trivial, trivial, trivial, trivial, trivial, trivial, trivial, trivial, trivial, trivial, trivial, trivial, trivial, trivial, trivial, trivial, trivial, trivial⟩
  · intro j T T2 v v2 h _ hz hk hu
    exact ⟨h.1.ch hz hk, h.2.tr20 hu (fun k hk he => by have he2 : (j = 17 ∧ k = ptr T 19 ∧ w5.heap.size ≤ k) ∨ (j = 18 ∧ k = ptr T 20 ∧ w5.heap.size ≤ k) := he; show False; omega)⟩
  · refine ⟨?_, ?_, ?_, ?_, ?_, ?_, ?_, ?_, ?_, ?_, ?_, ?_, ?_, ?_, ?_, ?_, ?_, ?_, ?_, ?_, trivial⟩
    · exact fun j hj hu T T2 v v2 h hD hz hk zU => (hk 92 (List.mem_singleton.2 rfl)).trans h
    · exact fun j hj hu T T2 v v2 h hD hz hk zU => (hk 93 (List.mem_singleton.2 rfl)).trans h
    · exact fun j hj hu T T2 v v2 h hD hz hk zU => (hk 94 (List.mem_singleton.2 rfl)).trans h
    · exact fun j hj hu T T2 v v2 h hD hz hk zU => (hk 95 (List.mem_singleton.2 rfl)).trans h
    · exact fun j hj hu T T2 v v2 h hD hz hk zU => (hk 96 (List.mem_singleton.2 rfl)).trans h
    · exact fun j hj hu T T2 v v2 h hD hz hk zU => (hk 97 (List.mem_singleton.2 rfl)).trans h
    · exact fun j hj hu T T2 v v2 h hD hz hk zU => (hk 98 (List.mem_singleton.2 rfl)).trans h
    · exact fun j hj hu T T2 v v2 h hD hz hk zU => (hk 99 (List.mem_singleton.2 rfl)).trans h
    · exact fun j hj hu T T2 v v2 h hD hz hk zU => (hk 100 (List.mem_singleton.2 rfl)).trans h
    · exact fun j hj hu T T2 v v2 h hD hz hk zU => (hk 101 (List.mem_singleton.2 rfl)).trans h
    · exact fun j hj hu T T2 v v2 h hD hz hk zU => (hk 102 (List.mem_singleton.2 rfl)).trans h
    · exact fun j hj hu T T2 v v2 h hD hz hk zU => (hk 91 (List.mem_singleton.2 rfl)).trans h
    · exact fun j hj hu T T2 v v2 h hD hz hk zU => (hk 103 (List.mem_singleton.2 rfl)).trans h
    · exact fun j hj hu T T2 v v2 h hD hz hk zU => (hk 104 (List.mem_singleton.2 rfl)).trans h
    · exact fun j hj hu T T2 v v2 h hD hz hk zU => (hk 105 (List.mem_singleton.2 rfl)).trans h
    · intro j hj hu T T2 v v2 h hD hz hk zU
      obtain ⟨b, pb, Bb, lb⟩ := h
      have e1 : ptr T 19 = b := by unfold ptr; rw [pb]; rfl
      have n18 : j = 18 → b ≠ ptr T 20 := fun e => by subst e; rw [← e1]; exact hD _ _ 15 16 19 20 rfl rfl rfl rfl (by decide) (.inl rfl) (by kernel_rfl) rfl rfl
      have n17 : j ≠ 17 := fun e => by subst e; exact absurd hu (by decide)
      exact ⟨b, (hk 19 (List.mem_singleton.2 rfl)).trans pb, Bb.upd zU (fun he => by have he2 : (j = 17 ∧ b = ptr T 19 ∧ w5.heap.size ≤ b) ∨ (j = 18 ∧ b = ptr T 20 ∧ w5.heap.size ≤ b) := he; omega), lb⟩
    · intro j hj hu T T2 v v2 h hD hz hk zU
      obtain ⟨b, pb, Bb, lb⟩ := h
      have e1 : ptr T 20 = b := by unfold ptr; rw [pb]; rfl
      have n17 : j = 17 → b ≠ ptr T 19 := fun e => by subst e; rw [← e1]; exact hD _ _ 16 15 20 19 rfl rfl rfl rfl (by decide) (.inl rfl) (by kernel_rfl) rfl rfl
      have n18 : j ≠ 18 := fun e => by subst e; exact absurd hu (by decide)
      exact ⟨b, (hk 20 (List.mem_singleton.2 rfl)).trans pb, Bb.upd zU (fun he => by have he2 : (j = 17 ∧ b = ptr T 19 ∧ w5.heap.size ≤ b) ∨ (j = 18 ∧ b = ptr T 20 ∧ w5.heap.size ≤ b) := he; omega), lb⟩
    · intro j hj hu T T2 v v2 h hD hz hk zU
      obtain ⟨b, pb, Bb, lb⟩ := h
      have e1 : ptr T 19 = b := by unfold ptr; rw [pb]; rfl
      have n18 : j = 18 → b ≠ ptr T 20 := fun e => by subst e; rw [← e1]; exact hD _ _ 15 16 19 20 rfl rfl rfl rfl (by decide) (.inr (by kernel_rfl)) (by kernel_rfl) rfl rfl
      exact ⟨b, (hk 19 (List.mem_singleton.2 rfl)).trans pb, Bb.upd zU (fun he => by have he2 : (j = 17 ∧ b = ptr T 19 ∧ w5.heap.size ≤ b) ∨ (j = 18 ∧ b = ptr T 20 ∧ w5.heap.size ≤ b) := he; omega), lb⟩
    · intro j hj hu T T2 v v2 h hD hz hk zU
      obtain ⟨b, pb, Bb, lb⟩ := h
      have e1 : ptr T 20 = b := by unfold ptr; rw [pb]; rfl
      have n17 : j = 17 → b ≠ ptr T 19 := fun e => by subst e; rw [← e1]; exact hD _ _ 16 15 20 19 rfl rfl rfl rfl (by decide) (.inr (by kernel_rfl)) (by kernel_rfl) rfl rfl
      exact ⟨b, (hk 20 (List.mem_singleton.2 rfl)).trans pb, Bb.upd zU (fun he => by have he2 : (j = 17 ∧ b = ptr T 19 ∧ w5.heap.size ≤ b) ∨ (j = 18 ∧ b = ptr T 20 ∧ w5.heap.size ≤ b) := he; omega), lb⟩
    · exact fun j hj hu T T2 v v2 h hD hz hk zU => (hk 21 (List.mem_singleton.2 rfl)).trans h
  · refine ⟨fun _ _ _ _ _ _ _ _ _ _ _ => trivial, fun _ _ _ _ _ _ _ _ _ _ _ => trivial, fun _ _ _ _ _ _ _ _ _ _ _ => trivial, fun _ _ _ _ _ _ _ _ _ _ _ => trivial, fun _ _ _ _ _ _ _ _ _ _ _ => trivial, fun _ _ _ _ _ _ _ _ _ _ _ => trivial, fun _ _ _ _ _ _ _ _ _ _ _ => trivial, fun _ _ _ _ _ _ _ _ _ _ _ => trivial, fun _ _ _ _ _ _ _ _ _ _ _ => trivial, fun _ _ _ _ _ _ _ _ _ _ _ => trivial, fun _ _ _ _ _ _ _ _ _ _ _ => trivial, fun _ _ _ _ _ _ _ _ _ _ _ => trivial, fun _ _ _ _ _ _ _ _ _ _ _ => trivial, fun _ _ _ _ _ _ _ _ _ _ _ => trivial, fun _ _ _ _ _ _ _ _ _ _ _ => trivial, fun _ _ _ _ _ _ _ _ _ _ _ => trivial, fun _ _ _ _ _ _ _ _ _ _ _ => trivial, fun _ _ _ _ _ _ _ _ _ _ _ => trivial, fun _ _ _ _ _ _ _ _ _ _ _ => trivial, fun _ _ _ _ _ _ _ _ _ _ _ => trivial, trivial⟩
  · refine ⟨?_, ?_, ?_, ?_, ?_, ?_, ?_, ?_, ?_, ?_, ?_, ?_, ?_, ?_, ?_, ?_, ?_, ?_, ?_, ?_, trivial⟩
    · intro T df v zz zB zp zC
      have qb := zB.1
      have zU := zB.2
      exact ⟨true, want_none rfl, fun _ => .inl ⟨_, _, ex_move rfl (qb.e (j := 0) rfl), Upd.refl _ _, fun h => absurd h (by decide), fun T2 N => N.s 92 rfl⟩, fun h => absurd h (by decide), fun h => absurd h (by decide)⟩
    · intro T df v zz zB zp zC
      have qb := zB.1
      have zU := zB.2
      exact ⟨true, want_none rfl, fun _ => .inl ⟨_, _, ex_move rfl (qb.e (j := 13) rfl), Upd.refl _ _, fun h => absurd h (by decide), fun T2 N => N.s 93 rfl⟩, fun h => absurd h (by decide), fun h => absurd h (by decide)⟩
    · intro T df v zz zB zp zC
      have qb := zB.1
      have zU := zB.2
      have p0 : T[92]? = some (gw true (.slice (some ⟨kq8, ko9, none⟩) n c)) := zp 0 (by kernel_rfl) (by kernel_rfl)
      have p1 : T[93]? = some (gw true (.int .i64 ((lft m : Nat) : Int))) := zp 1 (by kernel_rfl) (by kernel_rfl)
      exact ⟨true, want_none rfl, fun _ => .inl ⟨_, _, ex_sl19 rfl (ev p0 rfl) (congrArg some (ev p1 rfl)) rfl rfl (slFromE20 kq8 ko9 n c (lft m) (by omega) (ckq8) _), Upd.refl _ _, fun h => absurd h (by decide), fun T2 N => N.s 94 rfl⟩, fun h => absurd h (by decide), fun h => absurd h (by decide)⟩
    · intro T df v zz zB zp zC
      have qb := zB.1
      have zU := zB.2
      exact ⟨true, want_none rfl, fun _ => .inl ⟨_, _, ex_move rfl (qb.e (j := 1) rfl), Upd.refl _ _, fun h => absurd h (by decide), fun T2 N => N.s 95 rfl⟩, fun h => absurd h (by decide), fun h => absurd h (by decide)⟩
    · intro T df v zz zB zp zC
      have qb := zB.1
      have zU := zB.2
      exact ⟨true, want_none rfl, fun _ => .inl ⟨_, _, ex_move rfl (qb.e (j := 13) rfl), Upd.refl _ _, fun h => absurd h (by decide), fun T2 N => N.s 96 rfl⟩, fun h => absurd h (by decide), fun h => absurd h (by decide)⟩
    · intro T df v zz zB zp zC
      have qb := zB.1
      have zU := zB.2
      have p3 : T[95]? = some (gw true (.slice (some ⟨kq10, ko11, none⟩) m c2)) := zp 3 (by kernel_rfl) (by kernel_rfl)
      have p4 : T[96]? = some (gw true (.int .i64 ((lft m : Nat) : Int))) := zp 4 (by kernel_rfl) (by kernel_rfl)
      exact ⟨true, want_none rfl, fun _ => .inl ⟨_, _, ex_sl19 rfl (ev p3 rfl) (congrArg some (ev p4 rfl)) rfl rfl (slFromE20 kq10 ko11 m c2 (lft m) (by omega) (ckq10) _), Upd.refl _ _, fun h => absurd h (by decide), fun T2 N => N.s 97 rfl⟩, fun h => absurd h (by decide), fun h => absurd h (by decide)⟩
    · intro T df v zz zB zp zC
      have qb := zB.1
      have zU := zB.2
      exact ⟨true, want_none rfl, fun _ => .inl ⟨_, _, ex_ld rfl (qb.e (j := 8) rfl) (B14.upd zU (show ¬ False from id)).ldH, Upd.refl _ _, fun h => absurd h (by decide), fun T2 N => N.s 98 rfl⟩, fun h => absurd h (by decide), fun h => absurd h (by decide)⟩
    · intro T df v zz zB zp zC
      have qb := zB.1
      have zU := zB.2
      exact ⟨true, want_none rfl, fun _ => .inl ⟨_, _, ex_move rfl (qb.e (j := 4) rfl), Upd.refl _ _, fun h => absurd h (by decide), fun T2 N => N.s 99 rfl⟩, fun h => absurd h (by decide), fun h => absurd h (by decide)⟩
    · intro T df v zz zB zp zC
      have qb := zB.1
      have zU := zB.2
      exact ⟨true, want_none rfl, fun _ => .inl ⟨_, _, ex_move rfl (qb.e (j := 14) rfl), Upd.refl _ _, fun h => absurd h (by decide), fun T2 N => N.s 100 rfl⟩, fun h => absurd h (by decide), fun h => absurd h (by decide)⟩
    · intro T df v zz zB zp zC
      have qb := zB.1
      have zU := zB.2
      have p7 : T[99]? = some (gw true (.slice (some ⟨kq12, ko13, none⟩) k c3)) := zp 7 (by kernel_rfl) (by kernel_rfl)
      have p8 : T[100]? = some (gw true (.int .i64 ((k - 1 : Nat) : Int))) := zp 8 (by kernel_rfl) (by kernel_rfl)
      exact ⟨true, want_none rfl, fun _ => .inl ⟨_, _, ex_sl19 rfl (ev p7 rfl) rfl (congrArg some (ev p8 rfl)) rfl (slToH kq12 ko13 k c3 (k - 1) (by omega) (ckq12) _), Upd.refl _ _, fun h => absurd h (by decide), fun T2 N => N.s 101 rfl⟩, fun h => absurd h (by decide), fun h => absurd h (by decide)⟩
    · intro T df v zz zB zp zC
      have qb := zB.1
      have zU := zB.2
      have zDw : Below w.heap.size w v := d6.trans (zU.below d6.size (fun k hk => hk.elim))
      have p2 : T[94]? = some (gw true (.slice (some (if c = lft m then ⟨kq8, ko9, none⟩ else ⟨kq8, ko9 + (lft m) * 5, none⟩)) (n - (lft m)) (c - (lft m)))) := zp 2 (by kernel_rfl) (by kernel_rfl)
      have p5 : T[97]? = some (gw true (.slice (some (if c2 = lft m then ⟨kq10, ko11, none⟩ else ⟨kq10, ko11 + (lft m) * 5, none⟩)) (m - (lft m)) (c2 - (lft m)))) := zp 5 (by kernel_rfl) (by kernel_rfl)
      have p6 : T[98]? = some (gw true (x.val)) := zp 6 (by kernel_rfl) (by kernel_rfl)
      have p9 : T[101]? = some (gw true (.slice (some ⟨kq12, ko13, none⟩) (k - 1) c3)) := zp 9 (by kernel_rfl) (by kernel_rfl)
      refine ⟨true, want_none rfl, fun hc => .inr (.inr ⟨_, _, _, ex_call rfl (by simp only [List.map_toArray, List.map_cons, List.map_nil, (ev p2 rfl), (ev p5 rfl), (ev p6 rfl), (ev p9 rfl), evc] <;> rfl) rfl, c1 _ _ _ _ _ _ v ((hA.later zDw).from20 (lft m) (by omega)) ((hB.later zDw).from20 (lft m) (by omega)) ((hP.later zDw).take (k - 1) (by omega)), ?_⟩), fun _ => rfl, fun h => absurd h (by decide)⟩
      rintro e w9 ⟨rfl, b9⟩
      exact ⟨_, rfl, Upd.of_below b9, fun h => absurd h (by decide), fun T2 N => N.s 102 rfl⟩
    · intro T df v zz zB zp zC
      have qb := zB.1
      have zU := zB.2
      have p10 : T[102]? = some (gw true (.tuple #[((cb x (n - lft m) (m - lft m) false (P.take (k - 1))).1).val, ((cb x (n - lft m) (m - lft m) false (P.take (k - 1))).2).val, .bool (F1)])) := zp 10 (by kernel_rfl) (by kernel_rfl)
      exact ⟨true, want_none rfl, fun _ => .inl ⟨_, _, ex_move rfl (ev p10 rfl), Upd.refl _ _, fun h => absurd h (by decide), fun T2 N => N.s 91 rfl⟩, fun h => absurd h (by decide), fun h => absurd h (by decide)⟩
    · intro T df v zz zB zp zC
      have qb := zB.1
      have zU := zB.2
      have p11 : T[91]? = some (gw true (.tuple #[((cb x (n - lft m) (m - lft m) false (P.take (k - 1))).1).val, ((cb x (n - lft m) (m - lft m) false (P.take (k - 1))).2).val, .bool (F1)])) := zp 11 (by kernel_rfl) (by kernel_rfl)
      exact ⟨true, want_none rfl, fun _ => .inl ⟨_, _, ex_ext18 rfl (ev p11 rfl) rfl, Upd.refl _ _, fun h => absurd h (by decide), fun T2 N => N.s 103 rfl⟩, fun h => absurd h (by decide), fun h => absurd h (by decide)⟩
    · intro T df v zz zB zp zC
      have qb := zB.1
      have zU := zB.2
      have p11 : T[91]? = some (gw true (.tuple #[((cb x (n - lft m) (m - lft m) false (P.take (k - 1))).1).val, ((cb x (n - lft m) (m - lft m) false (P.take (k - 1))).2).val, .bool (F1)])) := zp 11 (by kernel_rfl) (by kernel_rfl)
      exact ⟨true, want_none rfl, fun _ => .inl ⟨_, _, ex_ext18 rfl (ev p11 rfl) rfl, Upd.refl _ _, fun h => absurd h (by decide), fun T2 N => N.s 104 rfl⟩, fun h => absurd h (by decide), fun h => absurd h (by decide)⟩
    · intro T df v zz zB zp zC
      have qb := zB.1
      have zU := zB.2
      have p11 : T[91]? = some (gw true (.tuple #[((cb x (n - lft m) (m - lft m) false (P.take (k - 1))).1).val, ((cb x (n - lft m) (m - lft m) false (P.take (k - 1))).2).val, .bool (F1)])) := zp 11 (by kernel_rfl) (by kernel_rfl)
      exact ⟨true, want_none rfl, fun _ => .inl ⟨_, _, ex_ext18 rfl (ev p11 rfl) rfl, Upd.refl _ _, fun h => absurd h (by decide), fun T2 N => N.s 105 rfl⟩, fun h => absurd h (by decide), fun h => absurd h (by decide)⟩
    · intro T df v zz zB zp zC
      have qb := zB.1
      have zU := zB.2
      exact ⟨_, want_none rfl, fun _ => .inl ⟨_, _, ex_al rfl (alH _), Upd.of_below ((Below.refl _ _).alloc (Nat.le_refl _) _), fun _ => ⟨_, rfl, Nat.le_refl _, by rw [World.size_alloc]; exact Nat.lt_succ_self _⟩, fun T2 N => ⟨_, N.s 19 rfl, BB.new _ _ _, zU.size⟩⟩, fun h => absurd h (by decide), fun h => absurd h (by decide)⟩
    · intro T df v zz zB zp zC
      have qb := zB.1
      have zU := zB.2
      exact ⟨_, want_none rfl, fun _ => .inl ⟨_, _, ex_al rfl (alH _), Upd.of_below ((Below.refl _ _).alloc (Nat.le_refl _) _), fun _ => ⟨_, rfl, Nat.le_refl _, by rw [World.size_alloc]; exact Nat.lt_succ_self _⟩, fun T2 N => ⟨_, N.s 20 rfl, BB.new _ _ _, zU.size⟩⟩, fun h => absurd h (by decide), fun h => absurd h (by decide)⟩
    · intro T df v zz zB zp zC
      have qb := zB.1
      have zU := zB.2
      have p12 : T[103]? = some (gw true (((cb x (n - lft m) (m - lft m) false (P.take (k - 1))).1).val)) := zp 12 (by kernel_rfl) (by kernel_rfl)
      have p15 : ∃ b : Nat, T[19]? = some (gw true (.pointer (some ⟨b, 0, none⟩))) ∧ BB v b 24 (zH.cs) ∧ w5.heap.size ≤ b := zp 15 (by kernel_rfl) (by kernel_rfl)
      obtain ⟨b, pb, Bb, lb⟩ := p15
      have e1 : ptr T 19 = b := by unfold ptr; rw [pb]; rfl
      exact ⟨_, want_none rfl, fun _ => .inr (.inl ⟨_, ex_st rfl (ev pb rfl) (ev p12 rfl) (Bb.stH rfl _), (upd18 _ _ _ _).sub20 (fun k hk => by have hk2 : k = b := hk; show (17 = 17 ∧ k = ptr T 19 ∧ w5.heap.size ≤ k) ∨ (17 = 18 ∧ k = ptr T 20 ∧ w5.heap.size ≤ k); omega), fun h => absurd h (by decide), fun T2 N => ⟨b, (N.k 19 rfl).trans pb, Bb.putH rfl _, lb⟩⟩), fun h => absurd h (by decide), fun h => absurd h (by decide)⟩
    · intro T df v zz zB zp zC
      have qb := zB.1
      have zU := zB.2
      have p13 : T[104]? = some (gw true (((cb x (n - lft m) (m - lft m) false (P.take (k - 1))).2).val)) := zp 13 (by kernel_rfl) (by kernel_rfl)
      have p16 : ∃ b : Nat, T[20]? = some (gw true (.pointer (some ⟨b, 0, none⟩))) ∧ BB v b 24 (zH.cs) ∧ w5.heap.size ≤ b := zp 16 (by kernel_rfl) (by kernel_rfl)
      obtain ⟨b, pb, Bb, lb⟩ := p16
      have e1 : ptr T 20 = b := by unfold ptr; rw [pb]; rfl
      exact ⟨_, want_none rfl, fun _ => .inr (.inl ⟨_, ex_st rfl (ev pb rfl) (ev p13 rfl) (Bb.stH rfl _), (upd18 _ _ _ _).sub20 (fun k hk => by have hk2 : k = b := hk; show (18 = 17 ∧ k = ptr T 19 ∧ w5.heap.size ≤ k) ∨ (18 = 18 ∧ k = ptr T 20 ∧ w5.heap.size ≤ k); omega), fun h => absurd h (by decide), fun T2 N => ⟨b, (N.k 20 rfl).trans pb, Bb.putH rfl _, lb⟩⟩), fun h => absurd h (by decide), fun h => absurd h (by decide)⟩
    · intro T df v zz zB zp zC
      have qb := zB.1
      have zU := zB.2
      have p14 : T[105]? = some (gw true (.bool (F1))) := zp 14 (by kernel_rfl) (by kernel_rfl)
      exact ⟨true, want_none rfl, fun _ => .inl ⟨_, _, ex_assign rfl (ev p14 rfl), Upd.refl _ _, fun h => absurd h (by decide), fun T2 N => N.s 21 rfl⟩, fun h => absurd h (by decide), fun h => absurd h (by decide)⟩
  intro T v15 zz zB zq za
  have qb := zB.1
  have U16 := zB.2
  clear zB zz
  clear q21
  have d17 : Below w.heap.size w v15 := d6.trans (U16.below (Nat.le_trans d6.size (Nat.le_refl _)) (fun k hk => hk.elim))
  have zv15 := U16.size
  obtain ⟨b18, p17, Bb18, lb18⟩ : ∃ b : Nat, T[19]? = some (gw true (.pointer (some ⟨b, 0, none⟩))) ∧ BB v15 b 24 (((cb x (n - lft m) (m - lft m) false (P.take (k - 1))).1).cs) ∧ w5.heap.size ≤ b := zq 17 _ rfl (fun k => rfl)
  have ltb18 := Bb18.lt
  obtain ⟨b19, p18, Bb19, lb19⟩ : ∃ b : Nat, T[20]? = some (gw true (.pointer (some ⟨b, 0, none⟩))) ∧ BB v15 b 24 (((cb x (n - lft m) (m - lft m) false (P.take (k - 1))).2).cs) ∧ w5.heap.size ≤ b := zq 18 _ rfl (fun k => rfl)
  have ltb19 := Bb19.lt
  have p19 : T[21]? = some (gw true (.bool (F1))) := zq 19 _ rfl (fun k => rfl)
  have nb18b19 : b18 ≠ b19 := by
    have := za 15 16 _ _ 19 20 rfl rfl rfl rfl (by decide) rfl rfl
    unfold ptr at this
    rw [p17, p18] at this
    exact this
  have q22 := (((qb.cons p17).cons p18).cons p19)
  clear zq za qb p17 p18 p19
  go_upto_region 12 with fail
  refine vp_start 154 (fun T v => Rp T 154 [(0, gw true (.slice (some ⟨kq8, ko9, none⟩) n c)), (1, gw true (.slice (some ⟨kq10, ko11, none⟩) m c2)), (4, gw true (.slice (some ⟨kq12, ko13, none⟩) k c3)), (10, gw true (.pointer (some ⟨w1.heap.size, 0, none⟩))), (11, gw true (.pointer (some ⟨w3.heap.size, 0, none⟩))), (12, gw true (.bool false)), (13, gw true (.int .i64 ((lft m : Nat) : Int))), (14, gw true (.int .i64 ((k - 1 : Nat) : Int))), (19, gw true (.pointer (some ⟨b18, 0, none⟩))), (20, gw true (.pointer (some ⟨b19, 0, none⟩))), (21, gw true (.bool (F1))), (28, gw true (.bool false)), (57, gw true (.bool false))] ∧ Upd (fun k => False) v15 v) (fun (i : Nat) (T : Array Value) (v : World) => match i with | 0 => T[106]? = some (gw true (.slice (some ⟨kq12, ko13, none⟩) k c3)) | 1 => T[107]? = some (gw true (.int .i64 ((k - 1 : Nat) : Int))) | 2 => T[108]? = some (gw true (.pointer (some ⟨kq12, ko13 + (k - 1) * 32, none⟩))) | 3 => T[109]? = some (gw true (tp.val)) | 4 => T[110]? = some (gw true (((cb x (n - lft m) (m - lft m) false (P.take (k - 1))).1).val)) | 5 => T[111]? = some (gw true (pval tp ((cb x (n - lft m) (m - lft m) false (P.take (k - 1))).1))) | 6 => ∃ b : Nat, T[22]? = some (gw true (.pointer (some ⟨b, 0, none⟩))) ∧ BB v b 95 (pz) ∧ v15.heap.size ≤ b | 7 => ∃ b : Nat, T[22]? = some (gw true (.pointer (some ⟨b, 0, none⟩))) ∧ BB v b 95 (pcs tp ((cb x (n - lft m) (m - lft m) false (P.take (k - 1))).1)) ∧ v15.heap.size ≤ b | _ => True) (fun (i : Nat) (T : Array Value) (v : World) => match i with | _ => True) (fun j T k => (j = 7 ∧ k = ptr T 22 ∧ v15.heap.size ≤ k)) (fun i => match i with | 0 => [106] | 1 => [107] | 2 => [108] | 3 => [109] | 4 => [110] | 5 => [111] | 6 => [22] | 7 => [22] | _ => []) (fun _ => []) [0, 1, 4, 10, 11, 12, 13, 14, 19, 20, 21, 28, 57] (fun i j => (Nat.beq i 6 && Nat.beq j 7)) (fun i => Nat.beq i 6) (by kernel_rfl) (by kernel_rfl) q22.z ⟨((((((((((((((Rp.nil q22.z).cons (q22.a 57 rfl)).cons (q22.a 28 rfl)).cons (q22.a 21 rfl)).cons (q22.a 20 rfl)).cons (q22.a 19 rfl)).cons (q22.a 14 rfl)).cons (q22.a 13 rfl)).cons (q22.a 12 rfl)).cons (q22.a 11 rfl)).cons (q22.a 10 rfl)).cons (q22.a 4 rfl)).cons (q22.a 1 rfl)).cons (q22.a 0 rfl)), (Upd.refl _ _).drew20⟩ ?_ ?_ ?_ ?_ ?_ ?_
  · exact ⟨trivial, trivial, trivial, trivial, trivial, trivial, trivial, trivial, trivial⟩
  · intro j T T2 v v2 h _ hz hk hu
    exact ⟨h.1.ch hz hk, h.2.tr20 hu (fun k hk he => by have he2 : (j = 7 ∧ k = ptr T 22 ∧ v15.heap.size ≤ k) := he; show False; omega)⟩
  · refine ⟨?_, ?_, ?_, ?_, ?_, ?_, ?_, ?_, trivial⟩
    · exact fun j hj hu T T2 v v2 h hD hz hk zU => (hk 106 (List.mem_singleton.2 rfl)).trans h
    · exact fun j hj hu T T2 v v2 h hD hz hk zU => (hk 107 (List.mem_singleton.2 rfl)).trans h
    · exact fun j hj hu T T2 v v2 h hD hz hk zU => (hk 108 (List.mem_singleton.2 rfl)).trans h
    · exact fun j hj hu T T2 v v2 h hD hz hk zU => (hk 109 (List.mem_singleton.2 rfl)).trans h
    · exact fun j hj hu T T2 v v2 h hD hz hk zU => (hk 110 (List.mem_singleton.2 rfl)).trans h
    · exact fun j hj hu T T2 v v2 h hD hz hk zU => (hk 111 (List.mem_singleton.2 rfl)).trans h
    · intro j hj hu T T2 v v2 h hD hz hk zU
      obtain ⟨b, pb, Bb, lb⟩ := h
      have e1 : ptr T 22 = b := by unfold ptr; rw [pb]; rfl
      have n7 : j ≠ 7 := fun e => by subst e; exact absurd hu (by decide)
      exact ⟨b, (hk 22 (List.mem_singleton.2 rfl)).trans pb, Bb.upd zU (fun he => by have he2 : (j = 7 ∧ b = ptr T 22 ∧ v15.heap.size ≤ b) := he; omega), lb⟩
    · intro j hj hu T T2 v v2 h hD hz hk zU
      obtain ⟨b, pb, Bb, lb⟩ := h
      have e1 : ptr T 22 = b := by unfold ptr; rw [pb]; rfl
      exact ⟨b, (hk 22 (List.mem_singleton.2 rfl)).trans pb, Bb.upd zU (fun he => by have he2 : (j = 7 ∧ b = ptr T 22 ∧ v15.heap.size ≤ b) := he; omega), lb⟩
  · refine ⟨fun _ _ _ _ _ _ _ _ _ _ _ => trivial, fun _ _ _ _ _ _ _ _ _ _ _ => trivial, fun _ _ _ _ _ _ _ _ _ _ _ => trivial, fun _ _ _ _ _ _ _ _ _ _ _ => trivial, fun _ _ _ _ _ _ _ _ _ _ _ => trivial, fun _ _ _ _ _ _ _ _ _ _ _ => trivial, fun _ _ _ _ _ _ _ _ _ _ _ => trivial, fun _ _ _ _ _ _ _ _ _ _ _ => trivial, trivial⟩
  · refine ⟨?_, ?_, ?_, ?_, ?_, ?_, ?_, ?_, trivial⟩
    · intro T df v zz zB zp zC
      have qb := zB.1
      have zU := zB.2
      exact ⟨true, want_none rfl, fun _ => .inl ⟨_, _, ex_move rfl (qb.e (j := 4) rfl), Upd.refl _ _, fun h => absurd h (by decide), fun T2 N => N.s 106 rfl⟩, fun h => absurd h (by decide), fun h => absurd h (by decide)⟩
    · intro T df v zz zB zp zC
      have qb := zB.1
      have zU := zB.2
      exact ⟨true, want_none rfl, fun _ => .inl ⟨_, _, ex_move rfl (qb.e (j := 14) rfl), Upd.refl _ _, fun h => absurd h (by decide), fun T2 N => N.s 107 rfl⟩, fun h => absurd h (by decide), fun h => absurd h (by decide)⟩
    · intro T df v zz zB zp zC
      have qb := zB.1
      have zU := zB.2
      have p0 : T[106]? = some (gw true (.slice (some ⟨kq12, ko13, none⟩) k c3)) := zp 0 (by kernel_rfl) (by kernel_rfl)
      have p1 : T[107]? = some (gw true (.int .i64 ((k - 1 : Nat) : Int))) := zp 1 (by kernel_rfl) (by kernel_rfl)
      exact ⟨true, want_none rfl, fun _ => .inl ⟨_, _, ex_ix rfl (ev p0 rfl) (ev p1 rfl) (ixH kq12 ko13 k c3 (k - 1) (by omega) _), Upd.refl _ _, fun h => absurd h (by decide), fun T2 N => N.s 108 rfl⟩, fun h => absurd h (by decide), fun h => absurd h (by decide)⟩
    · intro T df v zz zB zp zC
      have qb := zB.1
      have zU := zB.2
      have zDw : Below w.heap.size w v := d17.trans (zU.below d17.size (fun k hk => hk.elim))
      have p2 : T[108]? = some (gw true (.pointer (some ⟨kq12, ko13 + (k - 1) * 32, none⟩))) := zp 2 (by kernel_rfl) (by kernel_rfl)
      exact ⟨true, want_none rfl, fun _ => .inl ⟨_, _, ex_ld rfl (ev p2 rfl) (ldH20 (lkq12.upd (S := fun _ => False) (Upd.of_below zDw) hkq12 id) htp), Upd.refl _ _, fun h => absurd h (by decide), fun T2 N => N.s 109 rfl⟩, fun h => absurd h (by decide), fun h => absurd h (by decide)⟩
    · intro T df v zz zB zp zC
      have qb := zB.1
      have zU := zB.2
      exact ⟨true, want_none rfl, fun _ => .inl ⟨_, _, ex_ld rfl (qb.e (j := 19) rfl) (Bb18.upd zU (show ¬ False from id)).ldH, Upd.refl _ _, fun h => absurd h (by decide), fun T2 N => N.s 110 rfl⟩, fun h => absurd h (by decide), fun h => absurd h (by decide)⟩
    · intro T df v zz zB zp zC
      have qb := zB.1
      have zU := zB.2
      have p3 : T[109]? = some (gw true (tp.val)) := zp 3 (by kernel_rfl) (by kernel_rfl)
      have p4 : T[110]? = some (gw true (((cb x (n - lft m) (m - lft m) false (P.take (k - 1))).1).val)) := zp 4 (by kernel_rfl) (by kernel_rfl)
      exact ⟨true, want_none rfl, fun _ => .inl ⟨_, _, ex_bdP rfl (ev p3 rfl) (ev p4 rfl) (bdP _ _ _), Upd.refl _ _, fun h => absurd h (by decide), fun T2 N => N.s 111 rfl⟩, fun h => absurd h (by decide), fun h => absurd h (by decide)⟩
    · intro T df v zz zB zp zC
      have qb := zB.1
      have zU := zB.2
      exact ⟨_, want_none rfl, fun _ => .inl ⟨_, _, ex_al rfl (alP _), Upd.of_below ((Below.refl _ _).alloc (Nat.le_refl _) _), fun _ => ⟨_, rfl, Nat.le_refl _, by rw [World.size_alloc]; exact Nat.lt_succ_self _⟩, fun T2 N => ⟨_, N.s 22 rfl, BB.new _ _ _, zU.size⟩⟩, fun h => absurd h (by decide), fun h => absurd h (by decide)⟩
    · intro T df v zz zB zp zC
      have qb := zB.1
      have zU := zB.2
      have p5 : T[111]? = some (gw true (pval tp ((cb x (n - lft m) (m - lft m) false (P.take (k - 1))).1))) := zp 5 (by kernel_rfl) (by kernel_rfl)
      have p6 : ∃ b : Nat, T[22]? = some (gw true (.pointer (some ⟨b, 0, none⟩))) ∧ BB v b 95 (pz) ∧ v15.heap.size ≤ b := zp 6 (by kernel_rfl) (by kernel_rfl)
      obtain ⟨b, pb, Bb, lb⟩ := p6
      have e1 : ptr T 22 = b := by unfold ptr; rw [pb]; rfl
      exact ⟨_, want_none rfl, fun _ => .inr (.inl ⟨_, ex_st rfl (ev pb rfl) (ev p5 rfl) (Bb.stP rfl _ _), (upd18 _ _ _ _).sub20 (fun k hk => by have hk2 : k = b := hk; show (7 = 7 ∧ k = ptr T 22 ∧ v15.heap.size ≤ k); omega), fun h => absurd h (by decide), fun T2 N => ⟨b, (N.k 22 rfl).trans pb, Bb.whole _ (by rw [pcs_len]; rfl), lb⟩⟩), fun h => absurd h (by decide), fun h => absurd h (by decide)⟩
  intro T v20 zz zB zq za
  have qb := zB.1
  have U21 := zB.2
  clear zB zz
  clear q22
  have d22 : Below w.heap.size w v20 := d17.trans (U21.below (Nat.le_trans d17.size (Nat.le_refl _)) (fun k hk => hk.elim))
  have zv20 := U21.size
  obtain ⟨b23, p7, Bb23, lb23⟩ : ∃ b : Nat, T[22]? = some (gw true (.pointer (some ⟨b, 0, none⟩))) ∧ BB v20 b 95 (pcs tp ((cb x (n - lft m) (m - lft m) false (P.take (k - 1))).1)) ∧ v15.heap.size ≤ b := zq 7 _ rfl (fun k => rfl)
  have ltb23 := Bb23.lt
  have q23 := (qb.cons p7)
  clear zq za qb p7
  go_upto_region 13 with fail
  have B24 : BB v20 b19 24 (((cb x (n - lft m) (m - lft m) false (P.take (k - 1))).2).cs) := (Bb19.upd U21 (show ¬ False from id))
  refine vp_start 154 (fun T v => Rp T 154 [(0, gw true (.slice (some ⟨kq8, ko9, none⟩) n c)), (1, gw true (.slice (some ⟨kq10, ko11, none⟩) m c2)), (4, gw true (.slice (some ⟨kq12, ko13, none⟩) k c3)), (10, gw true (.pointer (some ⟨w1.heap.size, 0, none⟩))), (11, gw true (.pointer (some ⟨w3.heap.size, 0, none⟩))), (12, gw true (.bool false)), (13, gw true (.int .i64 ((lft m : Nat) : Int))), (14, gw true (.int .i64 ((k - 1 : Nat) : Int))), (20, gw true (.pointer (some ⟨b19, 0, none⟩))), (21, gw true (.bool (F1))), (22, gw true (.pointer (some ⟨b23, 0, none⟩))), (28, gw true (.bool false)), (57, gw true (.bool false))] ∧ Upd (fun k => False) v20 v) (fun (i : Nat) (T : Array Value) (v : World) => match i with | 0 => T[112]? = some (gw true (.slice (some ⟨kq12, ko13, none⟩) k c3)) | 1 => T[113]? = some (gw true (.int .i64 ((k - 1 : Nat) : Int))) | 2 => T[114]? = some (gw true (.pointer (some ⟨kq12, ko13 + (k - 1) * 32, none⟩))) | 3 => T[115]? = some (gw true (tp.val)) | 4 => T[116]? = some (gw true (((cb x (n - lft m) (m - lft m) false (P.take (k - 1))).2).val)) | 5 => T[117]? = some (gw true (pval tp ((cb x (n - lft m) (m - lft m) false (P.take (k - 1))).2))) | 6 => ∃ b : Nat, T[23]? = some (gw true (.pointer (some ⟨b, 0, none⟩))) ∧ BB v b 95 (pz) ∧ v20.heap.size ≤ b | 7 => ∃ b : Nat, T[23]? = some (gw true (.pointer (some ⟨b, 0, none⟩))) ∧ BB v b 95 (pcs tp ((cb x (n - lft m) (m - lft m) false (P.take (k - 1))).2)) ∧ v20.heap.size ≤ b | _ => True) (fun (i : Nat) (T : Array Value) (v : World) => match i with | _ => True) (fun j T k => (j = 7 ∧ k = ptr T 23 ∧ v20.heap.size ≤ k)) (fun i => match i with | 0 => [112] | 1 => [113] | 2 => [114] | 3 => [115] | 4 => [116] | 5 => [117] | 6 => [23] | 7 => [23] | _ => []) (fun _ => []) [0, 1, 4, 10, 11, 12, 13, 14, 20, 21, 22, 28, 57] (fun i j => (Nat.beq i 6 && Nat.beq j 7)) (fun i => Nat.beq i 6) (by kernel_rfl) (by kernel_rfl) q23.z ⟨((((((((((((((Rp.nil q23.z).cons (q23.a 57 rfl)).cons (q23.a 28 rfl)).cons (q23.a 22 rfl)).cons (q23.a 21 rfl)).cons (q23.a 20 rfl)).cons (q23.a 14 rfl)).cons (q23.a 13 rfl)).cons (q23.a 12 rfl)).cons (q23.a 11 rfl)).cons (q23.a 10 rfl)).cons (q23.a 4 rfl)).cons (q23.a 1 rfl)).cons (q23.a 0 rfl)), (Upd.refl _ _).drew20⟩ ?_ ?_ ?_ ?_ ?_ ?_
  · exact ⟨trivial, trivial, trivial, trivial, trivial, trivial, trivial, trivial, trivial⟩
  · intro j T T2 v v2 h _ hz hk hu
    exact ⟨h.1.ch hz hk, h.2.tr20 hu (fun k hk he => by have he2 : (j = 7 ∧ k = ptr T 23 ∧ v20.heap.size ≤ k) := he; show False; omega)⟩
  · refine ⟨?_, ?_, ?_, ?_, ?_, ?_, ?_, ?_, trivial⟩
    · exact fun j hj hu T T2 v v2 h hD hz hk zU => (hk 112 (List.mem_singleton.2 rfl)).trans h
    · exact fun j hj hu T T2 v v2 h hD hz hk zU => (hk 113 (List.mem_singleton.2 rfl)).trans h
    · exact fun j hj hu T T2 v v2 h hD hz hk zU => (hk 114 (List.mem_singleton.2 rfl)).trans h
    · exact fun j hj hu T T2 v v2 h hD hz hk zU => (hk 115 (List.mem_singleton.2 rfl)).trans h
    · exact fun j hj hu T T2 v v2 h hD hz hk zU => (hk 116 (List.mem_singleton.2 rfl)).trans h
    · exact fun j hj hu T T2 v v2 h hD hz hk zU => (hk 117 (List.mem_singleton.2 rfl)).trans h
    · intro j hj hu T T2 v v2 h hD hz hk zU
      obtain ⟨b, pb, Bb, lb⟩ := h
      have e1 : ptr T 23 = b := by unfold ptr; rw [pb]; rfl
      have n7 : j ≠ 7 := fun e => by subst e; exact absurd hu (by decide)
      exact ⟨b, (hk 23 (List.mem_singleton.2 rfl)).trans pb, Bb.upd zU (fun he => by have he2 : (j = 7 ∧ b = ptr T 23 ∧ v20.heap.size ≤ b) := he; omega), lb⟩
    · intro j hj hu T T2 v v2 h hD hz hk zU
      obtain ⟨b, pb, Bb, lb⟩ := h
      have e1 : ptr T 23 = b := by unfold ptr; rw [pb]; rfl
      exact ⟨b, (hk 23 (List.mem_singleton.2 rfl)).trans pb, Bb.upd zU (fun he => by have he2 : (j = 7 ∧ b = ptr T 23 ∧ v20.heap.size ≤ b) := he; omega), lb⟩
  · refine ⟨fun _ _ _ _ _ _ _ _ _ _ _ => trivial, fun _ _ _ _ _ _ _ _ _ _ _ => trivial, fun _ _ _ _ _ _ _ _ _ _ _ => trivial, fun _ _ _ _ _ _ _ _ _ _ _ => trivial, fun _ _ _ _ _ _ _ _ _ _ _ => trivial, fun _ _ _ _ _ _ _ _ _ _ _ => trivial, fun _ _ _ _ _ _ _ _ _ _ _ => trivial, fun _ _ _ _ _ _ _ _ _ _ _ => trivial, trivial⟩
  · refine ⟨?_, ?_, ?_, ?_, ?_, ?_, ?_, ?_, trivial⟩
    · intro T df v zz zB zp zC
      have qb := zB.1
      have zU := zB.2
      exact ⟨true, want_none rfl, fun _ => .inl ⟨_, _, ex_move rfl (qb.e (j := 4) rfl), Upd.refl _ _, fun h => absurd h (by decide), fun T2 N => N.s 112 rfl⟩, fun h => absurd h (by decide), fun h => absurd h (by decide)⟩
    · intro T df v zz zB zp zC
      have qb := zB.1
      have zU := zB.2
      exact ⟨true, want_none rfl, fun _ => .inl ⟨_, _, ex_move rfl (qb.e (j := 14) rfl), Upd.refl _ _, fun h => absurd h (by decide), fun T2 N => N.s 113 rfl⟩, fun h => absurd h (by decide), fun h => absurd h (by decide)⟩
    · intro T df v zz zB zp zC
      have qb := zB.1
      have zU := zB.2
      have p0 : T[112]? = some (gw true (.slice (some ⟨kq12, ko13, none⟩) k c3)) := zp 0 (by kernel_rfl) (by kernel_rfl)
      have p1 : T[113]? = some (gw true (.int .i64 ((k - 1 : Nat) : Int))) := zp 1 (by kernel_rfl) (by kernel_rfl)
      exact ⟨true, want_none rfl, fun _ => .inl ⟨_, _, ex_ix rfl (ev p0 rfl) (ev p1 rfl) (ixH kq12 ko13 k c3 (k - 1) (by omega) _), Upd.refl _ _, fun h => absurd h (by decide), fun T2 N => N.s 114 rfl⟩, fun h => absurd h (by decide), fun h => absurd h (by decide)⟩
    · intro T df v zz zB zp zC
      have qb := zB.1
      have zU := zB.2
      have zDw : Below w.heap.size w v := d22.trans (zU.below d22.size (fun k hk => hk.elim))
      have p2 : T[114]? = some (gw true (.pointer (some ⟨kq12, ko13 + (k - 1) * 32, none⟩))) := zp 2 (by kernel_rfl) (by kernel_rfl)
      exact ⟨true, want_none rfl, fun _ => .inl ⟨_, _, ex_ld rfl (ev p2 rfl) (ldH20 (lkq12.upd (S := fun _ => False) (Upd.of_below zDw) hkq12 id) htp), Upd.refl _ _, fun h => absurd h (by decide), fun T2 N => N.s 115 rfl⟩, fun h => absurd h (by decide), fun h => absurd h (by decide)⟩
    · intro T df v zz zB zp zC
      have qb := zB.1
      have zU := zB.2
      exact ⟨true, want_none rfl, fun _ => .inl ⟨_, _, ex_ld rfl (qb.e (j := 20) rfl) (B24.upd zU (show ¬ False from id)).ldH, Upd.refl _ _, fun h => absurd h (by decide), fun T2 N => N.s 116 rfl⟩, fun h => absurd h (by decide), fun h => absurd h (by decide)⟩
    · intro T df v zz zB zp zC
      have qb := zB.1
      have zU := zB.2
      have p3 : T[115]? = some (gw true (tp.val)) := zp 3 (by kernel_rfl) (by kernel_rfl)
      have p4 : T[116]? = some (gw true (((cb x (n - lft m) (m - lft m) false (P.take (k - 1))).2).val)) := zp 4 (by kernel_rfl) (by kernel_rfl)
      exact ⟨true, want_none rfl, fun _ => .inl ⟨_, _, ex_bdP rfl (ev p3 rfl) (ev p4 rfl) (bdP _ _ _), Upd.refl _ _, fun h => absurd h (by decide), fun T2 N => N.s 117 rfl⟩, fun h => absurd h (by decide), fun h => absurd h (by decide)⟩
    · intro T df v zz zB zp zC
      have qb := zB.1
      have zU := zB.2
      exact ⟨_, want_none rfl, fun _ => .inl ⟨_, _, ex_al rfl (alP _), Upd.of_below ((Below.refl _ _).alloc (Nat.le_refl _) _), fun _ => ⟨_, rfl, Nat.le_refl _, by rw [World.size_alloc]; exact Nat.lt_succ_self _⟩, fun T2 N => ⟨_, N.s 23 rfl, BB.new _ _ _, zU.size⟩⟩, fun h => absurd h (by decide), fun h => absurd h (by decide)⟩
    · intro T df v zz zB zp zC
      have qb := zB.1
      have zU := zB.2
      have p5 : T[117]? = some (gw true (pval tp ((cb x (n - lft m) (m - lft m) false (P.take (k - 1))).2))) := zp 5 (by kernel_rfl) (by kernel_rfl)
      have p6 : ∃ b : Nat, T[23]? = some (gw true (.pointer (some ⟨b, 0, none⟩))) ∧ BB v b 95 (pz) ∧ v20.heap.size ≤ b := zp 6 (by kernel_rfl) (by kernel_rfl)
      obtain ⟨b, pb, Bb, lb⟩ := p6
      have e1 : ptr T 23 = b := by unfold ptr; rw [pb]; rfl
      exact ⟨_, want_none rfl, fun _ => .inr (.inl ⟨_, ex_st rfl (ev pb rfl) (ev p5 rfl) (Bb.stP rfl _ _), (upd18 _ _ _ _).sub20 (fun k hk => by have hk2 : k = b := hk; show (7 = 7 ∧ k = ptr T 23 ∧ v20.heap.size ≤ k); omega), fun h => absurd h (by decide), fun T2 N => ⟨b, (N.k 23 rfl).trans pb, Bb.whole _ (by rw [pcs_len]; rfl), lb⟩⟩), fun h => absurd h (by decide), fun h => absurd h (by decide)⟩
  intro T v25 zz zB zq za
  have qb := zB.1
  have U26 := zB.2
  clear zB zz
  clear q23
  have d27 : Below w.heap.size w v25 := d22.trans (U26.below (Nat.le_trans d22.size (Nat.le_refl _)) (fun k hk => hk.elim))
  have zv25 := U26.size
  obtain ⟨b28, p7, Bb28, lb28⟩ : ∃ b : Nat, T[23]? = some (gw true (.pointer (some ⟨b, 0, none⟩))) ∧ BB v25 b 95 (pcs tp ((cb x (n - lft m) (m - lft m) false (P.take (k - 1))).2)) ∧ v20.heap.size ≤ b := zq 7 _ rfl (fun k => rfl)
  have ltb28 := Bb28.lt
  have q24 := (qb.cons p7)
  clear zq za qb p7
  go_upto_region 14 with fail
  have B29 : BB v25 b23 95 (pcs tp ((cb x (n - lft m) (m - lft m) false (P.take (k - 1))).1)) := (Bb23.upd U26 (show ¬ False from id))
  have B30 : BB v25 w1.heap.size 24 (zH.cs) := ((((Bw3.later bw5).upd U16 (show ¬ False from id)).upd U21 (show ¬ False from id)).upd U26 (show ¬ False from id))
  have B31 : BB v25 w3.heap.size 24 (zH.cs) := (((Bw5.upd U16 (show ¬ False from id)).upd U21 (show ¬ False from id)).upd U26 (show ¬ False from id))
  refine vp_start 154 (fun T v => Rp T 154 [(0, gw true (.slice (some ⟨kq8, ko9, none⟩) n c)), (1, gw true (.slice (some ⟨kq10, ko11, none⟩) m c2)), (4, gw true (.slice (some ⟨kq12, ko13, none⟩) k c3)), (10, gw true (.pointer (some ⟨w1.heap.size, 0, none⟩))), (11, gw true (.pointer (some ⟨w3.heap.size, 0, none⟩))), (13, gw true (.int .i64 ((lft m : Nat) : Int))), (14, gw true (.int .i64 ((k - 1 : Nat) : Int))), (21, gw true (.bool (F1))), (22, gw true (.pointer (some ⟨b23, 0, none⟩))), (23, gw true (.pointer (some ⟨b28, 0, none⟩))), (28, gw true (.bool false)), (57, gw true (.bool false))] ∧ Upd (fun k => k = w1.heap.size ∨ k = w3.heap.size) v25 v) (fun (i : Nat) (T : Array Value) (v : World) => match i with | 0 => T[118]? = some (gw true (.pointer (some ⟨b23, 0, none⟩))) | 1 => T[119]? = some (gw true (tp.val)) | 2 => T[120]? = some (gw true (.pointer (some ⟨b23, 32, none⟩))) | 3 => T[121]? = some (gw true (((cb x (n - lft m) (m - lft m) false (P.take (k - 1))).1).val)) | 4 => T[122]? = some (gw true ((nd tp ((cb x (n - lft m) (m - lft m) false (P.take (k - 1))).1)).val)) | 5 => T[123]? = some (gw true (.pointer (some ⟨b28, 0, none⟩))) | 6 => T[124]? = some (gw true (tp.val)) | 7 => T[125]? = some (gw true (.pointer (some ⟨b28, 32, none⟩))) | 8 => T[126]? = some (gw true (((cb x (n - lft m) (m - lft m) false (P.take (k - 1))).2).val)) | 9 => T[127]? = some (gw true ((nd tp ((cb x (n - lft m) (m - lft m) false (P.take (k - 1))).2)).val)) | 10 => T[128]? = some (gw true (.bool (F1))) | 11 => T[129]? = some (gw true (.bool (F1))) | 12 => T[130]? = some (gw (true && (F1 == false)) (pval tp ((cb x (n - lft m) (m - lft m) false (P.take (k - 1))).1))) | 13 => T[131]? = some (gw (true && (F1 == false)) (.slice (some ⟨kq8, ko9, none⟩) n c)) | 14 => T[132]? = some (gw (true && (F1 == false)) (pval (hd ((A.map lf).take (lft n))) (hd ((A.map lf).drop (lft n))))) | 15 => T[133]? = some (gw (true && (F1 == false)) (.bool ((!(decide (tp.v = (hd ((A.map lf).take (lft n))).v) && decide (((cb x (n - lft m) (m - lft m) false (P.take (k - 1))).1).v = (hd ((A.map lf).drop (lft n))).v))) && decide ((nd tp ((cb x (n - lft m) (m - lft m) false (P.take (k - 1))).1)).v = (nd (hd ((A.map lf).take (lft n))) (hd ((A.map lf).drop (lft n)))).v)))) | 16 => T[134]? = some (gw true (.bool (F1 || ((!(decide (tp.v = (hd ((A.map lf).take (lft n))).v) && decide (((cb x (n - lft m) (m - lft m) false (P.take (k - 1))).1).v = (hd ((A.map lf).drop (lft n))).v))) && decide ((nd tp ((cb x (n - lft m) (m - lft m) false (P.take (k - 1))).1)).v = (nd (hd ((A.map lf).take (lft n))) (hd ((A.map lf).drop (lft n)))).v))))) | 17 => T[135]? = some (gw true (.bool (F1 || ((!(decide (tp.v = (hd ((A.map lf).take (lft n))).v) && decide (((cb x (n - lft m) (m - lft m) false (P.take (k - 1))).1).v = (hd ((A.map lf).drop (lft n))).v))) && decide ((nd tp ((cb x (n - lft m) (m - lft m) false (P.take (k - 1))).1)).v = (nd (hd ((A.map lf).take (lft n))) (hd ((A.map lf).drop (lft n)))).v))))) | 18 => T[136]? = some (gw (true && ((F1 || ((!(decide (tp.v = (hd ((A.map lf).take (lft n))).v) && decide (((cb x (n - lft m) (m - lft m) false (P.take (k - 1))).1).v = (hd ((A.map lf).drop (lft n))).v))) && decide ((nd tp ((cb x (n - lft m) (m - lft m) false (P.take (k - 1))).1)).v = (nd (hd ((A.map lf).take (lft n))) (hd ((A.map lf).drop (lft n)))).v))) == false)) (pval tp ((cb x (n - lft m) (m - lft m) false (P.take (k - 1))).2))) | 19 => T[137]? = some (gw (true && ((F1 || ((!(decide (tp.v = (hd ((A.map lf).take (lft n))).v) && decide (((cb x (n - lft m) (m - lft m) false (P.take (k - 1))).1).v = (hd ((A.map lf).drop (lft n))).v))) && decide ((nd tp ((cb x (n - lft m) (m - lft m) false (P.take (k - 1))).1)).v = (nd (hd ((A.map lf).take (lft n))) (hd ((A.map lf).drop (lft n)))).v))) == false)) (.slice (some ⟨kq10, ko11, none⟩) m c2)) | 20 => T[138]? = some (gw (true && ((F1 || ((!(decide (tp.v = (hd ((A.map lf).take (lft n))).v) && decide (((cb x (n - lft m) (m - lft m) false (P.take (k - 1))).1).v = (hd ((A.map lf).drop (lft n))).v))) && decide ((nd tp ((cb x (n - lft m) (m - lft m) false (P.take (k - 1))).1)).v = (nd (hd ((A.map lf).take (lft n))) (hd ((A.map lf).drop (lft n)))).v))) == false)) (pval (hd ((B.map lf).take (lft m))) (hd ((B.map lf).drop (lft m))))) | 21 => T[139]? = some (gw (true && ((F1 || ((!(decide (tp.v = (hd ((A.map lf).take (lft n))).v) && decide (((cb x (n - lft m) (m - lft m) false (P.take (k - 1))).1).v = (hd ((A.map lf).drop (lft n))).v))) && decide ((nd tp ((cb x (n - lft m) (m - lft m) false (P.take (k - 1))).1)).v = (nd (hd ((A.map lf).take (lft n))) (hd ((A.map lf).drop (lft n)))).v))) == false)) (.bool ((!(decide (tp.v = (hd ((B.map lf).take (lft m))).v) && decide (((cb x (n - lft m) (m - lft m) false (P.take (k - 1))).2).v = (hd ((B.map lf).drop (lft m))).v))) && decide ((nd tp ((cb x (n - lft m) (m - lft m) false (P.take (k - 1))).2)).v = (nd (hd ((B.map lf).take (lft m))) (hd ((B.map lf).drop (lft m)))).v)))) | 22 => T[140]? = some (gw true (.bool ((F1 || ((!(decide (tp.v = (hd ((A.map lf).take (lft n))).v) && decide (((cb x (n - lft m) (m - lft m) false (P.take (k - 1))).1).v = (hd ((A.map lf).drop (lft n))).v))) && decide ((nd tp ((cb x (n - lft m) (m - lft m) false (P.take (k - 1))).1)).v = (nd (hd ((A.map lf).take (lft n))) (hd ((A.map lf).drop (lft n)))).v))) || ((!(decide (tp.v = (hd ((B.map lf).take (lft m))).v) && decide (((cb x (n - lft m) (m - lft m) false (P.take (k - 1))).2).v = (hd ((B.map lf).drop (lft m))).v))) && decide ((nd tp ((cb x (n - lft m) (m - lft m) false (P.take (k - 1))).2)).v = (nd (hd ((B.map lf).take (lft m))) (hd ((B.map lf).drop (lft m)))).v))))) | 23 => T[141]? = some (gw true (.bool ((F1 || ((!(decide (tp.v = (hd ((A.map lf).take (lft n))).v) && decide (((cb x (n - lft m) (m - lft m) false (P.take (k - 1))).1).v = (hd ((A.map lf).drop (lft n))).v))) && decide ((nd tp ((cb x (n - lft m) (m - lft m) false (P.take (k - 1))).1)).v = (nd (hd ((A.map lf).take (lft n))) (hd ((A.map lf).drop (lft n)))).v))) || ((!(decide (tp.v = (hd ((B.map lf).take (lft m))).v) && decide (((cb x (n - lft m) (m - lft m) false (P.take (k - 1))).2).v = (hd ((B.map lf).drop (lft m))).v))) && decide ((nd tp ((cb x (n - lft m) (m - lft m) false (P.take (k - 1))).2)).v = (nd (hd ((B.map lf).take (lft m))) (hd ((B.map lf).drop (lft m)))).v))))) | 24 => T[142]? = some (gw (true && (((F1 || ((!(decide (tp.v = (hd ((A.map lf).take (lft n))).v) && decide (((cb x (n - lft m) (m - lft m) false (P.take (k - 1))).1).v = (hd ((A.map lf).drop (lft n))).v))) && decide ((nd tp ((cb x (n - lft m) (m - lft m) false (P.take (k - 1))).1)).v = (nd (hd ((A.map lf).take (lft n))) (hd ((A.map lf).drop (lft n)))).v))) || ((!(decide (tp.v = (hd ((B.map lf).take (lft m))).v) && decide (((cb x (n - lft m) (m - lft m) false (P.take (k - 1))).2).v = (hd ((B.map lf).drop (lft m))).v))) && decide ((nd tp ((cb x (n - lft m) (m - lft m) false (P.take (k - 1))).2)).v = (nd (hd ((B.map lf).take (lft m))) (hd ((B.map lf).drop (lft m)))).v))) == false)) (.slice (some ⟨kq12, ko13, none⟩) k c3)) | 25 => T[143]? = some (gw (true && (((F1 || ((!(decide (tp.v = (hd ((A.map lf).take (lft n))).v) && decide (((cb x (n - lft m) (m - lft m) false (P.take (k - 1))).1).v = (hd ((A.map lf).drop (lft n))).v))) && decide ((nd tp ((cb x (n - lft m) (m - lft m) false (P.take (k - 1))).1)).v = (nd (hd ((A.map lf).take (lft n))) (hd ((A.map lf).drop (lft n)))).v))) || ((!(decide (tp.v = (hd ((B.map lf).take (lft m))).v) && decide (((cb x (n - lft m) (m - lft m) false (P.take (k - 1))).2).v = (hd ((B.map lf).drop (lft m))).v))) && decide ((nd tp ((cb x (n - lft m) (m - lft m) false (P.take (k - 1))).2)).v = (nd (hd ((B.map lf).take (lft m))) (hd ((B.map lf).drop (lft m)))).v))) == false)) (.int .i64 ((k - 1 : Nat) : Int))) | 26 => T[144]? = some (gw (true && (((F1 || ((!(decide (tp.v = (hd ((A.map lf).take (lft n))).v) && decide (((cb x (n - lft m) (m - lft m) false (P.take (k - 1))).1).v = (hd ((A.map lf).drop (lft n))).v))) && decide ((nd tp ((cb x (n - lft m) (m - lft m) false (P.take (k - 1))).1)).v = (nd (hd ((A.map lf).take (lft n))) (hd ((A.map lf).drop (lft n)))).v))) || ((!(decide (tp.v = (hd ((B.map lf).take (lft m))).v) && decide (((cb x (n - lft m) (m - lft m) false (P.take (k - 1))).2).v = (hd ((B.map lf).drop (lft m))).v))) && decide ((nd tp ((cb x (n - lft m) (m - lft m) false (P.take (k - 1))).2)).v = (nd (hd ((B.map lf).take (lft m))) (hd ((B.map lf).drop (lft m)))).v))) == false)) (.pointer (some ⟨kq12, ko13 + (k - 1) * 32, none⟩))) | 27 => T[145]? = some (gw (true && (((F1 || ((!(decide (tp.v = (hd ((A.map lf).take (lft n))).v) && decide (((cb x (n - lft m) (m - lft m) false (P.take (k - 1))).1).v = (hd ((A.map lf).drop (lft n))).v))) && decide ((nd tp ((cb x (n - lft m) (m - lft m) false (P.take (k - 1))).1)).v = (nd (hd ((A.map lf).take (lft n))) (hd ((A.map lf).drop (lft n)))).v))) || ((!(decide (tp.v = (hd ((B.map lf).take (lft m))).v) && decide (((cb x (n - lft m) (m - lft m) false (P.take (k - 1))).2).v = (hd ((B.map lf).drop (lft m))).v))) && decide ((nd tp ((cb x (n - lft m) (m - lft m) false (P.take (k - 1))).2)).v = (nd (hd ((B.map lf).take (lft m))) (hd ((B.map lf).drop (lft m)))).v))) == false)) (tp.val)) | 28 => T[146]? = some (gw (true && (((F1 || ((!(decide (tp.v = (hd ((A.map lf).take (lft n))).v) && decide (((cb x (n - lft m) (m - lft m) false (P.take (k - 1))).1).v = (hd ((A.map lf).drop (lft n))).v))) && decide ((nd tp ((cb x (n - lft m) (m - lft m) false (P.take (k - 1))).1)).v = (nd (hd ((A.map lf).take (lft n))) (hd ((A.map lf).drop (lft n)))).v))) || ((!(decide (tp.v = (hd ((B.map lf).take (lft m))).v) && decide (((cb x (n - lft m) (m - lft m) false (P.take (k - 1))).2).v = (hd ((B.map lf).drop (lft m))).v))) && decide ((nd tp ((cb x (n - lft m) (m - lft m) false (P.take (k - 1))).2)).v = (nd (hd ((B.map lf).take (lft m))) (hd ((B.map lf).drop (lft m)))).v))) == false)) (.slice (some ⟨kq8, ko9, none⟩) n c)) | 29 => T[147]? = some (gw (true && (((F1 || ((!(decide (tp.v = (hd ((A.map lf).take (lft n))).v) && decide (((cb x (n - lft m) (m - lft m) false (P.take (k - 1))).1).v = (hd ((A.map lf).drop (lft n))).v))) && decide ((nd tp ((cb x (n - lft m) (m - lft m) false (P.take (k - 1))).1)).v = (nd (hd ((A.map lf).take (lft n))) (hd ((A.map lf).drop (lft n)))).v))) || ((!(decide (tp.v = (hd ((B.map lf).take (lft m))).v) && decide (((cb x (n - lft m) (m - lft m) false (P.take (k - 1))).2).v = (hd ((B.map lf).drop (lft m))).v))) && decide ((nd tp ((cb x (n - lft m) (m - lft m) false (P.take (k - 1))).2)).v = (nd (hd ((B.map lf).take (lft m))) (hd ((B.map lf).drop (lft m)))).v))) == false)) (.int .i64 ((lft m : Nat) : Int))) | 30 => T[148]? = some (gw (true && (((F1 || ((!(decide (tp.v = (hd ((A.map lf).take (lft n))).v) && decide (((cb x (n - lft m) (m - lft m) false (P.take (k - 1))).1).v = (hd ((A.map lf).drop (lft n))).v))) && decide ((nd tp ((cb x (n - lft m) (m - lft m) false (P.take (k - 1))).1)).v = (nd (hd ((A.map lf).take (lft n))) (hd ((A.map lf).drop (lft n)))).v))) || ((!(decide (tp.v = (hd ((B.map lf).take (lft m))).v) && decide (((cb x (n - lft m) (m - lft m) false (P.take (k - 1))).2).v = (hd ((B.map lf).drop (lft m))).v))) && decide ((nd tp ((cb x (n - lft m) (m - lft m) false (P.take (k - 1))).2)).v = (nd (hd ((B.map lf).take (lft m))) (hd ((B.map lf).drop (lft m)))).v))) == false)) (.slice (some ⟨kq8, ko9, none⟩) (lft m) c)) | 31 => T[149]? = some (gw (true && (((F1 || ((!(decide (tp.v = (hd ((A.map lf).take (lft n))).v) && decide (((cb x (n - lft m) (m - lft m) false (P.take (k - 1))).1).v = (hd ((A.map lf).drop (lft n))).v))) && decide ((nd tp ((cb x (n - lft m) (m - lft m) false (P.take (k - 1))).1)).v = (nd (hd ((A.map lf).take (lft n))) (hd ((A.map lf).drop (lft n)))).v))) || ((!(decide (tp.v = (hd ((B.map lf).take (lft m))).v) && decide (((cb x (n - lft m) (m - lft m) false (P.take (k - 1))).2).v = (hd ((B.map lf).drop (lft m))).v))) && decide ((nd tp ((cb x (n - lft m) (m - lft m) false (P.take (k - 1))).2)).v = (nd (hd ((B.map lf).take (lft m))) (hd ((B.map lf).drop (lft m)))).v))) == false)) (.slice (some ⟨kq10, ko11, none⟩) m c2)) | 32 => T[150]? = some (gw (true && (((F1 || ((!(decide (tp.v = (hd ((A.map lf).take (lft n))).v) && decide (((cb x (n - lft m) (m - lft m) false (P.take (k - 1))).1).v = (hd ((A.map lf).drop (lft n))).v))) && decide ((nd tp ((cb x (n - lft m) (m - lft m) false (P.take (k - 1))).1)).v = (nd (hd ((A.map lf).take (lft n))) (hd ((A.map lf).drop (lft n)))).v))) || ((!(decide (tp.v = (hd ((B.map lf).take (lft m))).v) && decide (((cb x (n - lft m) (m - lft m) false (P.take (k - 1))).2).v = (hd ((B.map lf).drop (lft m))).v))) && decide ((nd tp ((cb x (n - lft m) (m - lft m) false (P.take (k - 1))).2)).v = (nd (hd ((B.map lf).take (lft m))) (hd ((B.map lf).drop (lft m)))).v))) == false)) (.int .i64 ((lft m : Nat) : Int))) | 33 => T[151]? = some (gw (true && (((F1 || ((!(decide (tp.v = (hd ((A.map lf).take (lft n))).v) && decide (((cb x (n - lft m) (m - lft m) false (P.take (k - 1))).1).v = (hd ((A.map lf).drop (lft n))).v))) && decide ((nd tp ((cb x (n - lft m) (m - lft m) false (P.take (k - 1))).1)).v = (nd (hd ((A.map lf).take (lft n))) (hd ((A.map lf).drop (lft n)))).v))) || ((!(decide (tp.v = (hd ((B.map lf).take (lft m))).v) && decide (((cb x (n - lft m) (m - lft m) false (P.take (k - 1))).2).v = (hd ((B.map lf).drop (lft m))).v))) && decide ((nd tp ((cb x (n - lft m) (m - lft m) false (P.take (k - 1))).2)).v = (nd (hd ((B.map lf).take (lft m))) (hd ((B.map lf).drop (lft m)))).v))) == false)) (.slice (some ⟨kq10, ko11, none⟩) (lft m) c2)) | 34 => T[152]? = some (gw (true && (((F1 || ((!(decide (tp.v = (hd ((A.map lf).take (lft n))).v) && decide (((cb x (n - lft m) (m - lft m) false (P.take (k - 1))).1).v = (hd ((A.map lf).drop (lft n))).v))) && decide ((nd tp ((cb x (n - lft m) (m - lft m) false (P.take (k - 1))).1)).v = (nd (hd ((A.map lf).take (lft n))) (hd ((A.map lf).drop (lft n)))).v))) || ((!(decide (tp.v = (hd ((B.map lf).take (lft m))).v) && decide (((cb x (n - lft m) (m - lft m) false (P.take (k - 1))).2).v = (hd ((B.map lf).drop (lft m))).v))) && decide ((nd tp ((cb x (n - lft m) (m - lft m) false (P.take (k - 1))).2)).v = (nd (hd ((B.map lf).take (lft m))) (hd ((B.map lf).drop (lft m)))).v))) == false)) (.bool (decide (MtP tp (A.take (lft m)) (B.take (lft m)))))) | 35 => T[153]? = some (gw true (.bool (((F1 || ((!(decide (tp.v = (hd ((A.map lf).take (lft n))).v) && decide (((cb x (n - lft m) (m - lft m) false (P.take (k - 1))).1).v = (hd ((A.map lf).drop (lft n))).v))) && decide ((nd tp ((cb x (n - lft m) (m - lft m) false (P.take (k - 1))).1)).v = (nd (hd ((A.map lf).take (lft n))) (hd ((A.map lf).drop (lft n)))).v))) || ((!(decide (tp.v = (hd ((B.map lf).take (lft m))).v) && decide (((cb x (n - lft m) (m - lft m) false (P.take (k - 1))).2).v = (hd ((B.map lf).drop (lft m))).v))) && decide ((nd tp ((cb x (n - lft m) (m - lft m) false (P.take (k - 1))).2)).v = (nd (hd ((B.map lf).take (lft m))) (hd ((B.map lf).drop (lft m)))).v))) || (decide (MtP tp (A.take (lft m)) (B.take (lft m))))))) | 36 => BB v w1.heap.size 24 ((nd tp ((cb x (n - lft m) (m - lft m) false (P.take (k - 1))).1)).cs) | 37 => BB v w3.heap.size 24 ((nd tp ((cb x (n - lft m) (m - lft m) false (P.take (k - 1))).2)).cs) | 38 => T[12]? = some (gw true (.bool (((F1 || ((!(decide (tp.v = (hd ((A.map lf).take (lft n))).v) && decide (((cb x (n - lft m) (m - lft m) false (P.take (k - 1))).1).v = (hd ((A.map lf).drop (lft n))).v))) && decide ((nd tp ((cb x (n - lft m) (m - lft m) false (P.take (k - 1))).1)).v = (nd (hd ((A.map lf).take (lft n))) (hd ((A.map lf).drop (lft n)))).v))) || ((!(decide (tp.v = (hd ((B.map lf).take (lft m))).v) && decide (((cb x (n - lft m) (m - lft m) false (P.take (k - 1))).2).v = (hd ((B.map lf).drop (lft m))).v))) && decide ((nd tp ((cb x (n - lft m) (m - lft m) false (P.take (k - 1))).2)).v = (nd (hd ((B.map lf).take (lft m))) (hd ((B.map lf).drop (lft m)))).v))) || (decide (MtP tp (A.take (lft m)) (B.take (lft m))))))) | _ => True) (fun (i : Nat) (T : Array Value) (v : World) => match i with | 36 => BB v w1.heap.size 24 (zH.cs) | 37 => BB v w3.heap.size 24 (zH.cs) | _ => True) (fun j T k => (j = 36 ∧ k = w1.heap.size) ∨ (j = 37 ∧ k = w3.heap.size)) (fun i => match i with | 0 => [118] | 1 => [119] | 2 => [120] | 3 => [121] | 4 => [122] | 5 => [123] | 6 => [124] | 7 => [125] | 8 => [126] | 9 => [127] | 10 => [128] | 11 => [129] | 12 => [130] | 13 => [131] | 14 => [132] | 15 => [133] | 16 => [134] | 17 => [135] | 18 => [136] | 19 => [137] | 20 => [138] | 21 => [139] | 22 => [140] | 23 => [141] | 24 => [142] | 25 => [143] | 26 => [144] | 27 => [145] | 28 => [146] | 29 => [147] | 30 => [148] | 31 => [149] | 32 => [150] | 33 => [151] | 34 => [152] | 35 => [153] | 36 => [] | 37 => [] | 38 => [12] | _ => []) (fun _ => []) [0, 1, 4, 10, 11, 13, 14, 21, 22, 23, 28, 57] (fun i j => false) (fun i => false) (by kernel_rfl) (by kernel_rfl) q24.z ⟨(((((((((((((Rp.nil q24.z).cons (q24.a 57 rfl)).cons (q24.a 28 rfl)).cons (q24.a 23 rfl)).cons (q24.a 22 rfl)).cons (q24.a 21 rfl)).cons (q24.a 14 rfl)).cons (q24.a 13 rfl)).cons (q24.a 11 rfl)).cons (q24.a 10 rfl)).cons (q24.a 4 rfl)).cons (q24.a 1 rfl)).cons (q24.a 0 rfl)), (Upd.refl _ _).drew20⟩ ?_ ?_ ?_ ?_ ?_ ?_
  · exact ⟨trivial, trivial, trivial, trivial, trivial, trivial, trivial, trivial, trivial, trivial, trivial, trivial, trivial, trivial, trivial, trivial, trivial, trivial, trivial, trivial, trivial, trivial, trivial, trivial, trivial, trivial, trivial, trivial, trivial, trivial, trivial, trivial, trivial, trivial, trivial, trivial, B30.later (Below.refl _ _).drew, B31.later (Below.refl _ _).drew, trivial, trivial⟩
  · intro j T T2 v v2 h _ hz hk hu
    exact ⟨h.1.ch hz hk, h.2.tr20 hu (fun k hk he => by have he2 : (j = 36 ∧ k = w1.heap.size) ∨ (j = 37 ∧ k = w3.heap.size) := he; show k = w1.heap.size ∨ k = w3.heap.size; omega)⟩
  · refine ⟨?_, ?_, ?_, ?_, ?_, ?_, ?_, ?_, ?_, ?_, ?_, ?_, ?_, ?_, ?_, ?_, ?_, ?_, ?_, ?_, ?_, ?_, ?_, ?_, ?_, ?_, ?_, ?_, ?_, ?_, ?_, ?_, ?_, ?_, ?_, ?_, ?_, ?_, ?_, trivial⟩
    · exact fun j hj hu T T2 v v2 h hD hz hk zU => (hk 118 (List.mem_singleton.2 rfl)).trans h
    · exact fun j hj hu T T2 v v2 h hD hz hk zU => (hk 119 (List.mem_singleton.2 rfl)).trans h
    · exact fun j hj hu T T2 v v2 h hD hz hk zU => (hk 120 (List.mem_singleton.2 rfl)).trans h
    · exact fun j hj hu T T2 v v2 h hD hz hk zU => (hk 121 (List.mem_singleton.2 rfl)).trans h
    · exact fun j hj hu T T2 v v2 h hD hz hk zU => (hk 122 (List.mem_singleton.2 rfl)).trans h
    · exact fun j hj hu T T2 v v2 h hD hz hk zU => (hk 123 (List.mem_singleton.2 rfl)).trans h
    · exact fun j hj hu T T2 v v2 h hD hz hk zU => (hk 124 (List.mem_singleton.2 rfl)).trans h
    · exact fun j hj hu T T2 v v2 h hD hz hk zU => (hk 125 (List.mem_singleton.2 rfl)).trans h
    · exact fun j hj hu T T2 v v2 h hD hz hk zU => (hk 126 (List.mem_singleton.2 rfl)).trans h
    · exact fun j hj hu T T2 v v2 h hD hz hk zU => (hk 127 (List.mem_singleton.2 rfl)).trans h
    · exact fun j hj hu T T2 v v2 h hD hz hk zU => (hk 128 (List.mem_singleton.2 rfl)).trans h
    · exact fun j hj hu T T2 v v2 h hD hz hk zU => (hk 129 (List.mem_singleton.2 rfl)).trans h
    · exact fun j hj hu T T2 v v2 h hD hz hk zU => (hk 130 (List.mem_singleton.2 rfl)).trans h
    · exact fun j hj hu T T2 v v2 h hD hz hk zU => (hk 131 (List.mem_singleton.2 rfl)).trans h
    · exact fun j hj hu T T2 v v2 h hD hz hk zU => (hk 132 (List.mem_singleton.2 rfl)).trans h
    · exact fun j hj hu T T2 v v2 h hD hz hk zU => (hk 133 (List.mem_singleton.2 rfl)).trans h
    · exact fun j hj hu T T2 v v2 h hD hz hk zU => (hk 134 (List.mem_singleton.2 rfl)).trans h
    · exact fun j hj hu T T2 v v2 h hD hz hk zU => (hk 135 (List.mem_singleton.2 rfl)).trans h
    · exact fun j hj hu T T2 v v2 h hD hz hk zU => (hk 136 (List.mem_singleton.2 rfl)).trans h
    · exact fun j hj hu T T2 v v2 h hD hz hk zU => (hk 137 (List.mem_singleton.2 rfl)).trans h
    · exact fun j hj hu T T2 v v2 h hD hz hk zU => (hk 138 (List.mem_singleton.2 rfl)).trans h
    · exact fun j hj hu T T2 v v2 h hD hz hk zU => (hk 139 (List.mem_singleton.2 rfl)).trans h
    · exact fun j hj hu T T2 v v2 h hD hz hk zU => (hk 140 (List.mem_singleton.2 rfl)).trans h
    · exact fun j hj hu T T2 v v2 h hD hz hk zU => (hk 141 (List.mem_singleton.2 rfl)).trans h
    · exact fun j hj hu T T2 v v2 h hD hz hk zU => (hk 142 (List.mem_singleton.2 rfl)).trans h
    · exact fun j hj hu T T2 v v2 h hD hz hk zU => (hk 143 (List.mem_singleton.2 rfl)).trans h
    · exact fun j hj hu T T2 v v2 h hD hz hk zU => (hk 144 (List.mem_singleton.2 rfl)).trans h
    · exact fun j hj hu T T2 v v2 h hD hz hk zU => (hk 145 (List.mem_singleton.2 rfl)).trans h
    · exact fun j hj hu T T2 v v2 h hD hz hk zU => (hk 146 (List.mem_singleton.2 rfl)).trans h
    · exact fun j hj hu T T2 v v2 h hD hz hk zU => (hk 147 (List.mem_singleton.2 rfl)).trans h
    · exact fun j hj hu T T2 v v2 h hD hz hk zU => (hk 148 (List.mem_singleton.2 rfl)).trans h
    · exact fun j hj hu T T2 v v2 h hD hz hk zU => (hk 149 (List.mem_singleton.2 rfl)).trans h
    · exact fun j hj hu T T2 v v2 h hD hz hk zU => (hk 150 (List.mem_singleton.2 rfl)).trans h
    · exact fun j hj hu T T2 v v2 h hD hz hk zU => (hk 151 (List.mem_singleton.2 rfl)).trans h
    · exact fun j hj hu T T2 v v2 h hD hz hk zU => (hk 152 (List.mem_singleton.2 rfl)).trans h
    · exact fun j hj hu T T2 v v2 h hD hz hk zU => (hk 153 (List.mem_singleton.2 rfl)).trans h
    · intro j hj hu T T2 v v2 h hD hz hk zU
      exact BB.upd h zU (fun he => by have he2 : (j = 36 ∧ w1.heap.size = w1.heap.size) ∨ (j = 37 ∧ w1.heap.size = w3.heap.size) := he; omega)
    · intro j hj hu T T2 v v2 h hD hz hk zU
      exact BB.upd h zU (fun he => by have he2 : (j = 36 ∧ w3.heap.size = w1.heap.size) ∨ (j = 37 ∧ w3.heap.size = w3.heap.size) := he; omega)
    · exact fun j hj hu T T2 v v2 h hD hz hk zU => (hk 12 (List.mem_singleton.2 rfl)).trans h
  · refine ⟨fun _ _ _ _ _ _ _ _ _ _ _ => trivial, fun _ _ _ _ _ _ _ _ _ _ _ => trivial, fun _ _ _ _ _ _ _ _ _ _ _ => trivial, fun _ _ _ _ _ _ _ _ _ _ _ => trivial, fun _ _ _ _ _ _ _ _ _ _ _ => trivial, fun _ _ _ _ _ _ _ _ _ _ _ => trivial, fun _ _ _ _ _ _ _ _ _ _ _ => trivial, fun _ _ _ _ _ _ _ _ _ _ _ => trivial, fun _ _ _ _ _ _ _ _ _ _ _ => trivial, fun _ _ _ _ _ _ _ _ _ _ _ => trivial, fun _ _ _ _ _ _ _ _ _ _ _ => trivial, fun _ _ _ _ _ _ _ _ _ _ _ => trivial, fun _ _ _ _ _ _ _ _ _ _ _ => trivial, fun _ _ _ _ _ _ _ _ _ _ _ => trivial, fun _ _ _ _ _ _ _ _ _ _ _ => trivial, fun _ _ _ _ _ _ _ _ _ _ _ => trivial, fun _ _ _ _ _ _ _ _ _ _ _ => trivial, fun _ _ _ _ _ _ _ _ _ _ _ => trivial, fun _ _ _ _ _ _ _ _ _ _ _ => trivial, fun _ _ _ _ _ _ _ _ _ _ _ => trivial, fun _ _ _ _ _ _ _ _ _ _ _ => trivial, fun _ _ _ _ _ _ _ _ _ _ _ => trivial, fun _ _ _ _ _ _ _ _ _ _ _ => trivial, fun _ _ _ _ _ _ _ _ _ _ _ => trivial, fun _ _ _ _ _ _ _ _ _ _ _ => trivial, fun _ _ _ _ _ _ _ _ _ _ _ => trivial, fun _ _ _ _ _ _ _ _ _ _ _ => trivial, fun _ _ _ _ _ _ _ _ _ _ _ => trivial, fun _ _ _ _ _ _ _ _ _ _ _ => trivial, fun _ _ _ _ _ _ _ _ _ _ _ => trivial, fun _ _ _ _ _ _ _ _ _ _ _ => trivial, fun _ _ _ _ _ _ _ _ _ _ _ => trivial, fun _ _ _ _ _ _ _ _ _ _ _ => trivial, fun _ _ _ _ _ _ _ _ _ _ _ => trivial, fun _ _ _ _ _ _ _ _ _ _ _ => trivial, fun _ _ _ _ _ _ _ _ _ _ _ => trivial, ?_, ?_, fun _ _ _ _ _ _ _ _ _ _ _ => trivial, trivial⟩
    · exact fun j hj T T2 v v2 h _ hz hk zU => BB.upd h zU (fun he => by have he2 : (j = 36 ∧ w1.heap.size = w1.heap.size) ∨ (j = 37 ∧ w1.heap.size = w3.heap.size) := he; omega)
    · exact fun j hj T T2 v v2 h _ hz hk zU => BB.upd h zU (fun he => by have he2 : (j = 36 ∧ w3.heap.size = w1.heap.size) ∨ (j = 37 ∧ w3.heap.size = w3.heap.size) := he; omega)
  · refine ⟨?_, ?_, ?_, ?_, ?_, ?_, ?_, ?_, ?_, ?_, ?_, ?_, ?_, ?_, ?_, ?_, ?_, ?_, ?_, ?_, ?_, ?_, ?_, ?_, ?_, ?_, ?_, ?_, ?_, ?_, ?_, ?_, ?_, ?_, ?_, ?_, ?_, ?_, ?_, trivial⟩
    · intro T df v zz zB zp zC
      have qb := zB.1
      have zU := zB.2
      exact ⟨true, want_none rfl, fun _ => .inl ⟨_, _, ex_fa rfl (qb.e (j := 22) rfl) (faP _ _ _ (.inl ⟨rfl, rfl⟩) _), Upd.refl _ _, fun h => absurd h (by decide), fun T2 N => N.s 118 rfl⟩, fun h => absurd h (by decide), fun h => absurd h (by decide)⟩
    · intro T df v zz zB zp zC
      have qb := zB.1
      have zU := zB.2
      have p0 : T[118]? = some (gw true (.pointer (some ⟨b23, 0, none⟩))) := zp 0 (by kernel_rfl) (by kernel_rfl)
      exact ⟨true, want_none rfl, fun _ => .inl ⟨_, _, ex_ld rfl (ev p0 rfl) (B29.upd zU (show ¬ (b23 = w1.heap.size ∨ b23 = w3.heap.size) by omega)).ldA, Upd.refl _ _, fun h => absurd h (by decide), fun T2 N => N.s 119 rfl⟩, fun h => absurd h (by decide), fun h => absurd h (by decide)⟩
    · intro T df v zz zB zp zC
      have qb := zB.1
      have zU := zB.2
      exact ⟨true, want_none rfl, fun _ => .inl ⟨_, _, ex_fa rfl (qb.e (j := 22) rfl) (faP _ _ _ (.inr ⟨rfl, rfl⟩) _), Upd.refl _ _, fun h => absurd h (by decide), fun T2 N => N.s 120 rfl⟩, fun h => absurd h (by decide), fun h => absurd h (by decide)⟩
    · intro T df v zz zB zp zC
      have qb := zB.1
      have zU := zB.2
      have p2 : T[120]? = some (gw true (.pointer (some ⟨b23, 32, none⟩))) := zp 2 (by kernel_rfl) (by kernel_rfl)
      exact ⟨true, want_none rfl, fun _ => .inl ⟨_, _, ex_ld rfl (ev p2 rfl) (B29.upd zU (show ¬ (b23 = w1.heap.size ∨ b23 = w3.heap.size) by omega)).ldB, Upd.refl _ _, fun h => absurd h (by decide), fun T2 N => N.s 121 rfl⟩, fun h => absurd h (by decide), fun h => absurd h (by decide)⟩
    · intro T df v zz zB zp zC
      have qb := zB.1
      have zU := zB.2
      have p1 : T[119]? = some (gw true (tp.val)) := zp 1 (by kernel_rfl) (by kernel_rfl)
      have p3 : T[121]? = some (gw true (((cb x (n - lft m) (m - lft m) false (P.take (k - 1))).1).val)) := zp 3 (by kernel_rfl) (by kernel_rfl)
      refine ⟨true, want_none rfl, fun hc => .inr (.inr ⟨_, _, _, ex_call rfl (by simp only [List.map_toArray, List.map_cons, List.map_nil, (ev p1 rfl), (ev p3 rfl), evc] <;> rfl) rfl, node20 tp ((cb x (n - lft m) (m - lft m) false (P.take (k - 1))).1) v, ?_⟩), fun _ => rfl, fun h => absurd h (by decide)⟩
      rintro e w9 ⟨rfl, b9⟩
      exact ⟨_, rfl, Upd.of_below b9, fun h => absurd h (by decide), fun T2 N => N.s 122 rfl⟩
    · intro T df v zz zB zp zC
      have qb := zB.1
      have zU := zB.2
      exact ⟨true, want_none rfl, fun _ => .inl ⟨_, _, ex_fa rfl (qb.e (j := 23) rfl) (faP _ _ _ (.inl ⟨rfl, rfl⟩) _), Upd.refl _ _, fun h => absurd h (by decide), fun T2 N => N.s 123 rfl⟩, fun h => absurd h (by decide), fun h => absurd h (by decide)⟩
    · intro T df v zz zB zp zC
      have qb := zB.1
      have zU := zB.2
      have p5 : T[123]? = some (gw true (.pointer (some ⟨b28, 0, none⟩))) := zp 5 (by kernel_rfl) (by kernel_rfl)
      exact ⟨true, want_none rfl, fun _ => .inl ⟨_, _, ex_ld rfl (ev p5 rfl) (Bb28.upd zU (show ¬ (b28 = w1.heap.size ∨ b28 = w3.heap.size) by omega)).ldA, Upd.refl _ _, fun h => absurd h (by decide), fun T2 N => N.s 124 rfl⟩, fun h => absurd h (by decide), fun h => absurd h (by decide)⟩
    · intro T df v zz zB zp zC
      have qb := zB.1
      have zU := zB.2
      exact ⟨true, want_none rfl, fun _ => .inl ⟨_, _, ex_fa rfl (qb.e (j := 23) rfl) (faP _ _ _ (.inr ⟨rfl, rfl⟩) _), Upd.refl _ _, fun h => absurd h (by decide), fun T2 N => N.s 125 rfl⟩, fun h => absurd h (by decide), fun h => absurd h (by decide)⟩
    · intro T df v zz zB zp zC
      have qb := zB.1
      have zU := zB.2
      have p7 : T[125]? = some (gw true (.pointer (some ⟨b28, 32, none⟩))) := zp 7 (by kernel_rfl) (by kernel_rfl)
      exact ⟨true, want_none rfl, fun _ => .inl ⟨_, _, ex_ld rfl (ev p7 rfl) (Bb28.upd zU (show ¬ (b28 = w1.heap.size ∨ b28 = w3.heap.size) by omega)).ldB, Upd.refl _ _, fun h => absurd h (by decide), fun T2 N => N.s 126 rfl⟩, fun h => absurd h (by decide), fun h => absurd h (by decide)⟩
    · intro T df v zz zB zp zC
      have qb := zB.1
      have zU := zB.2
      have p6 : T[124]? = some (gw true (tp.val)) := zp 6 (by kernel_rfl) (by kernel_rfl)
      have p8 : T[126]? = some (gw true (((cb x (n - lft m) (m - lft m) false (P.take (k - 1))).2).val)) := zp 8 (by kernel_rfl) (by kernel_rfl)
      refine ⟨true, want_none rfl, fun hc => .inr (.inr ⟨_, _, _, ex_call rfl (by simp only [List.map_toArray, List.map_cons, List.map_nil, (ev p6 rfl), (ev p8 rfl), evc] <;> rfl) rfl, node20 tp ((cb x (n - lft m) (m - lft m) false (P.take (k - 1))).2) v, ?_⟩), fun _ => rfl, fun h => absurd h (by decide)⟩
      rintro e w9 ⟨rfl, b9⟩
      exact ⟨_, rfl, Upd.of_below b9, fun h => absurd h (by decide), fun T2 N => N.s 127 rfl⟩
    · intro T df v zz zB zp zC
      have qb := zB.1
      have zU := zB.2
      exact ⟨true, want_none rfl, fun _ => .inl ⟨_, _, ex_move rfl (qb.e (j := 21) rfl), Upd.refl _ _, fun h => absurd h (by decide), fun T2 N => N.s 128 rfl⟩, fun h => absurd h (by decide), fun h => absurd h (by decide)⟩
    · intro T df v zz zB zp zC
      have qb := zB.1
      have zU := zB.2
      have p10 : T[128]? = some (gw true (.bool (F1))) := zp 10 (by kernel_rfl) (by kernel_rfl)
      exact ⟨true, want_none rfl, fun _ => .inl ⟨_, _, ex_move rfl (ev p10 rfl), Upd.refl _ _, fun h => absurd h (by decide), fun T2 N => N.s 129 rfl⟩, fun h => absurd h (by decide), fun h => absurd h (by decide)⟩
    · intro T df v zz zB zp zC
      have qb := zB.1
      have zU := zB.2
      have p11 : T[129]? = some (gw true (.bool (F1))) := zp 11 (by kernel_rfl) (by kernel_rfl)
      exact ⟨(true && (F1 == false)), want_g rfl rfl p11, fun hc => .inl ⟨_, _, ex_ld rfl (qb.e (j := 22) rfl) (B29.upd zU (show ¬ (b23 = w1.heap.size ∨ b23 = w3.heap.size) by omega)).ldP, Upd.refl _ _, fun h => absurd h (by decide), fun T2 N => by rw [hc]; exact N.s 130 rfl⟩, fun _ => rfl, fun hc T2 N => by rw [hc]; exact N.s 130 rfl⟩
    · intro T df v zz zB zp zC
      have qb := zB.1
      have zU := zB.2
      have p11 : T[129]? = some (gw true (.bool (F1))) := zp 11 (by kernel_rfl) (by kernel_rfl)
      exact ⟨(true && (F1 == false)), want_g rfl rfl p11, fun hc => .inl ⟨_, _, ex_move rfl (qb.e (j := 0) rfl), Upd.refl _ _, fun h => absurd h (by decide), fun T2 N => by rw [hc]; exact N.s 131 rfl⟩, fun _ => rfl, fun hc T2 N => by rw [hc]; exact N.s 131 rfl⟩
    · intro T df v zz zB zp zC
      have qb := zB.1
      have zU := zB.2
      have zDw : Below w.heap.size w v := d27.trans (zU.below d27.size (fun k hk => by have hk2 : k = w1.heap.size ∨ k = w3.heap.size := hk; omega))
      have p11 : T[129]? = some (gw true (.bool (F1))) := zp 11 (by kernel_rfl) (by kernel_rfl)
      have p13 : T[131]? = some (gw (true && (F1 == false)) (.slice (some ⟨kq8, ko9, none⟩) n c)) := zp 13 (by kernel_rfl) (by kernel_rfl)
      refine ⟨(true && (F1 == false)), want_g rfl rfl p11, fun hc => .inr (.inr ⟨_, _, _, ex_call rfl (by simp only [List.map_toArray, List.map_cons, List.map_nil, (ev p13 hc), evc] <;> rfl) rfl, halves20 _ _ _ _ v (hA.later zDw) (by omega) (by omega) hvA, ?_⟩), fun _ => rfl, fun hc T2 N => by rw [hc]; exact N.s 132 rfl⟩
      rintro e w9 ⟨rfl, b9⟩
      exact ⟨_, rfl, Upd.of_below b9, fun h => absurd h (by decide), fun T2 N => by rw [hc]; exact N.s 132 rfl⟩
    · intro T df v zz zB zp zC
      have qb := zB.1
      have zU := zB.2
      have p11 : T[129]? = some (gw true (.bool (F1))) := zp 11 (by kernel_rfl) (by kernel_rfl)
      have p12 : T[130]? = some (gw (true && (F1 == false)) (pval tp ((cb x (n - lft m) (m - lft m) false (P.take (k - 1))).1))) := zp 12 (by kernel_rfl) (by kernel_rfl)
      have p14 : T[132]? = some (gw (true && (F1 == false)) (pval (hd ((A.map lf).take (lft n))) (hd ((A.map lf).drop (lft n))))) := zp 14 (by kernel_rfl) (by kernel_rfl)
      refine ⟨(true && (F1 == false)), want_g rfl rfl p11, fun hc => .inr (.inr ⟨_, _, _, ex_call rfl (by simp only [List.map_toArray, List.map_cons, List.map_nil, (ev p12 hc), (ev p14 hc), evc] <;> rfl) rfl, one20 tp ((cb x (n - lft m) (m - lft m) false (P.take (k - 1))).1) (hd ((A.map lf).take (lft n))) (hd ((A.map lf).drop (lft n))) v, ?_⟩), fun _ => rfl, fun hc T2 N => by rw [hc]; exact N.s 133 rfl⟩
      rintro e w9 ⟨rfl, b9⟩
      exact ⟨_, rfl, Upd.of_below b9, fun h => absurd h (by decide), fun T2 N => by rw [hc]; exact N.s 133 rfl⟩
    · intro T df v zz zB zp zC
      have qb := zB.1
      have zU := zB.2
      have p11 : T[129]? = some (gw true (.bool (F1))) := zp 11 (by kernel_rfl) (by kernel_rfl)
      have p15 : T[133]? = some (gw (true && (F1 == false)) (.bool ((!(decide (tp.v = (hd ((A.map lf).take (lft n))).v) && decide (((cb x (n - lft m) (m - lft m) false (P.take (k - 1))).1).v = (hd ((A.map lf).drop (lft n))).v))) && decide ((nd tp ((cb x (n - lft m) (m - lft m) false (P.take (k - 1))).1)).v = (nd (hd ((A.map lf).take (lft n))) (hd ((A.map lf).drop (lft n)))).v)))) := zp 15 (by kernel_rfl) (by kernel_rfl)
      exact ⟨true, want_none rfl, fun _ => .inl ⟨_, _, ex_or (c := true) (b := F1) (z := ((!(decide (tp.v = (hd ((A.map lf).take (lft n))).v) && decide (((cb x (n - lft m) (m - lft m) false (P.take (k - 1))).1).v = (hd ((A.map lf).drop (lft n))).v))) && decide ((nd tp ((cb x (n - lft m) (m - lft m) false (P.take (k - 1))).1)).v = (nd (hd ((A.map lf).take (lft n))) (hd ((A.map lf).drop (lft n)))).v))) rfl p11 p15 rfl, Upd.refl _ _, fun h => absurd h (by decide), fun T2 N => N.s 134 rfl⟩, fun h => absurd h (by decide), fun h => absurd h (by decide)⟩
    · intro T df v zz zB zp zC
      have qb := zB.1
      have zU := zB.2
      have p16 : T[134]? = some (gw true (.bool (F1 || ((!(decide (tp.v = (hd ((A.map lf).take (lft n))).v) && decide (((cb x (n - lft m) (m - lft m) false (P.take (k - 1))).1).v = (hd ((A.map lf).drop (lft n))).v))) && decide ((nd tp ((cb x (n - lft m) (m - lft m) false (P.take (k - 1))).1)).v = (nd (hd ((A.map lf).take (lft n))) (hd ((A.map lf).drop (lft n)))).v))))) := zp 16 (by kernel_rfl) (by kernel_rfl)
      exact ⟨true, want_none rfl, fun _ => .inl ⟨_, _, ex_move rfl (ev p16 rfl), Upd.refl _ _, fun h => absurd h (by decide), fun T2 N => N.s 135 rfl⟩, fun h => absurd h (by decide), fun h => absurd h (by decide)⟩
    · intro T df v zz zB zp zC
      have qb := zB.1
      have zU := zB.2
      have p17 : T[135]? = some (gw true (.bool (F1 || ((!(decide (tp.v = (hd ((A.map lf).take (lft n))).v) && decide (((cb x (n - lft m) (m - lft m) false (P.take (k - 1))).1).v = (hd ((A.map lf).drop (lft n))).v))) && decide ((nd tp ((cb x (n - lft m) (m - lft m) false (P.take (k - 1))).1)).v = (nd (hd ((A.map lf).take (lft n))) (hd ((A.map lf).drop (lft n)))).v))))) := zp 17 (by kernel_rfl) (by kernel_rfl)
      exact ⟨(true && ((F1 || ((!(decide (tp.v = (hd ((A.map lf).take (lft n))).v) && decide (((cb x (n - lft m) (m - lft m) false (P.take (k - 1))).1).v = (hd ((A.map lf).drop (lft n))).v))) && decide ((nd tp ((cb x (n - lft m) (m - lft m) false (P.take (k - 1))).1)).v = (nd (hd ((A.map lf).take (lft n))) (hd ((A.map lf).drop (lft n)))).v))) == false)), want_g rfl rfl p17, fun hc => .inl ⟨_, _, ex_ld rfl (qb.e (j := 23) rfl) (Bb28.upd zU (show ¬ (b28 = w1.heap.size ∨ b28 = w3.heap.size) by omega)).ldP, Upd.refl _ _, fun h => absurd h (by decide), fun T2 N => by rw [hc]; exact N.s 136 rfl⟩, fun _ => rfl, fun hc T2 N => by rw [hc]; exact N.s 136 rfl⟩
    · intro T df v zz zB zp zC
      have qb := zB.1
      have zU := zB.2
      have p17 : T[135]? = some (gw true (.bool (F1 || ((!(decide (tp.v = (hd ((A.map lf).take (lft n))).v) && decide (((cb x (n - lft m) (m - lft m) false (P.take (k - 1))).1).v = (hd ((A.map lf).drop (lft n))).v))) && decide ((nd tp ((cb x (n - lft m) (m - lft m) false (P.take (k - 1))).1)).v = (nd (hd ((A.map lf).take (lft n))) (hd ((A.map lf).drop (lft n)))).v))))) := zp 17 (by kernel_rfl) (by kernel_rfl)
      exact ⟨(true && ((F1 || ((!(decide (tp.v = (hd ((A.map lf).take (lft n))).v) && decide (((cb x (n - lft m) (m - lft m) false (P.take (k - 1))).1).v = (hd ((A.map lf).drop (lft n))).v))) && decide ((nd tp ((cb x (n - lft m) (m - lft m) false (P.take (k - 1))).1)).v = (nd (hd ((A.map lf).take (lft n))) (hd ((A.map lf).drop (lft n)))).v))) == false)), want_g rfl rfl p17, fun hc => .inl ⟨_, _, ex_move rfl (qb.e (j := 1) rfl), Upd.refl _ _, fun h => absurd h (by decide), fun T2 N => by rw [hc]; exact N.s 137 rfl⟩, fun _ => rfl, fun hc T2 N => by rw [hc]; exact N.s 137 rfl⟩
    · intro T df v zz zB zp zC
      have qb := zB.1
      have zU := zB.2
      have zDw : Below w.heap.size w v := d27.trans (zU.below d27.size (fun k hk => by have hk2 : k = w1.heap.size ∨ k = w3.heap.size := hk; omega))
      have p17 : T[135]? = some (gw true (.bool (F1 || ((!(decide (tp.v = (hd ((A.map lf).take (lft n))).v) && decide (((cb x (n - lft m) (m - lft m) false (P.take (k - 1))).1).v = (hd ((A.map lf).drop (lft n))).v))) && decide ((nd tp ((cb x (n - lft m) (m - lft m) false (P.take (k - 1))).1)).v = (nd (hd ((A.map lf).take (lft n))) (hd ((A.map lf).drop (lft n)))).v))))) := zp 17 (by kernel_rfl) (by kernel_rfl)
      have p19 : T[137]? = some (gw (true && ((F1 || ((!(decide (tp.v = (hd ((A.map lf).take (lft n))).v) && decide (((cb x (n - lft m) (m - lft m) false (P.take (k - 1))).1).v = (hd ((A.map lf).drop (lft n))).v))) && decide ((nd tp ((cb x (n - lft m) (m - lft m) false (P.take (k - 1))).1)).v = (nd (hd ((A.map lf).take (lft n))) (hd ((A.map lf).drop (lft n)))).v))) == false)) (.slice (some ⟨kq10, ko11, none⟩) m c2)) := zp 19 (by kernel_rfl) (by kernel_rfl)
      refine ⟨(true && ((F1 || ((!(decide (tp.v = (hd ((A.map lf).take (lft n))).v) && decide (((cb x (n - lft m) (m - lft m) false (P.take (k - 1))).1).v = (hd ((A.map lf).drop (lft n))).v))) && decide ((nd tp ((cb x (n - lft m) (m - lft m) false (P.take (k - 1))).1)).v = (nd (hd ((A.map lf).take (lft n))) (hd ((A.map lf).drop (lft n)))).v))) == false)), want_g rfl rfl p17, fun hc => .inr (.inr ⟨_, _, _, ex_call rfl (by simp only [List.map_toArray, List.map_cons, List.map_nil, (ev p19 hc), evc] <;> rfl) rfl, halves20 _ _ _ _ v (hB.later zDw) (by omega) (by omega) hvB, ?_⟩), fun _ => rfl, fun hc T2 N => by rw [hc]; exact N.s 138 rfl⟩
      rintro e w9 ⟨rfl, b9⟩
      exact ⟨_, rfl, Upd.of_below b9, fun h => absurd h (by decide), fun T2 N => by rw [hc]; exact N.s 138 rfl⟩
    · intro T df v zz zB zp zC
      have qb := zB.1
      have zU := zB.2
      have p17 : T[135]? = some (gw true (.bool (F1 || ((!(decide (tp.v = (hd ((A.map lf).take (lft n))).v) && decide (((cb x (n - lft m) (m - lft m) false (P.take (k - 1))).1).v = (hd ((A.map lf).drop (lft n))).v))) && decide ((nd tp ((cb x (n - lft m) (m - lft m) false (P.take (k - 1))).1)).v = (nd (hd ((A.map lf).take (lft n))) (hd ((A.map lf).drop (lft n)))).v))))) := zp 17 (by kernel_rfl) (by kernel_rfl)
      have p18 : T[136]? = some (gw (true && ((F1 || ((!(decide (tp.v = (hd ((A.map lf).take (lft n))).v) && decide (((cb x (n - lft m) (m - lft m) false (P.take (k - 1))).1).v = (hd ((A.map lf).drop (lft n))).v))) && decide ((nd tp ((cb x (n - lft m) (m - lft m) false (P.take (k - 1))).1)).v = (nd (hd ((A.map lf).take (lft n))) (hd ((A.map lf).drop (lft n)))).v))) == false)) (pval tp ((cb x (n - lft m) (m - lft m) false (P.take (k - 1))).2))) := zp 18 (by kernel_rfl) (by kernel_rfl)
      have p20 : T[138]? = some (gw (true && ((F1 || ((!(decide (tp.v = (hd ((A.map lf).take (lft n))).v) && decide (((cb x (n - lft m) (m - lft m) false (P.take (k - 1))).1).v = (hd ((A.map lf).drop (lft n))).v))) && decide ((nd tp ((cb x (n - lft m) (m - lft m) false (P.take (k - 1))).1)).v = (nd (hd ((A.map lf).take (lft n))) (hd ((A.map lf).drop (lft n)))).v))) == false)) (pval (hd ((B.map lf).take (lft m))) (hd ((B.map lf).drop (lft m))))) := zp 20 (by kernel_rfl) (by kernel_rfl)
      refine ⟨(true && ((F1 || ((!(decide (tp.v = (hd ((A.map lf).take (lft n))).v) && decide (((cb x (n - lft m) (m - lft m) false (P.take (k - 1))).1).v = (hd ((A.map lf).drop (lft n))).v))) && decide ((nd tp ((cb x (n - lft m) (m - lft m) false (P.take (k - 1))).1)).v = (nd (hd ((A.map lf).take (lft n))) (hd ((A.map lf).drop (lft n)))).v))) == false)), want_g rfl rfl p17, fun hc => .inr (.inr ⟨_, _, _, ex_call rfl (by simp only [List.map_toArray, List.map_cons, List.map_nil, (ev p18 hc), (ev p20 hc), evc] <;> rfl) rfl, one20 tp ((cb x (n - lft m) (m - lft m) false (P.take (k - 1))).2) (hd ((B.map lf).take (lft m))) (hd ((B.map lf).drop (lft m))) v, ?_⟩), fun _ => rfl, fun hc T2 N => by rw [hc]; exact N.s 139 rfl⟩
      rintro e w9 ⟨rfl, b9⟩
      exact ⟨_, rfl, Upd.of_below b9, fun h => absurd h (by decide), fun T2 N => by rw [hc]; exact N.s 139 rfl⟩
    · intro T df v zz zB zp zC
      have qb := zB.1
      have zU := zB.2
      have p17 : T[135]? = some (gw true (.bool (F1 || ((!(decide (tp.v = (hd ((A.map lf).take (lft n))).v) && decide (((cb x (n - lft m) (m - lft m) false (P.take (k - 1))).1).v = (hd ((A.map lf).drop (lft n))).v))) && decide ((nd tp ((cb x (n - lft m) (m - lft m) false (P.take (k - 1))).1)).v = (nd (hd ((A.map lf).take (lft n))) (hd ((A.map lf).drop (lft n)))).v))))) := zp 17 (by kernel_rfl) (by kernel_rfl)
      have p21 : T[139]? = some (gw (true && ((F1 || ((!(decide (tp.v = (hd ((A.map lf).take (lft n))).v) && decide (((cb x (n - lft m) (m - lft m) false (P.take (k - 1))).1).v = (hd ((A.map lf).drop (lft n))).v))) && decide ((nd tp ((cb x (n - lft m) (m - lft m) false (P.take (k - 1))).1)).v = (nd (hd ((A.map lf).take (lft n))) (hd ((A.map lf).drop (lft n)))).v))) == false)) (.bool ((!(decide (tp.v = (hd ((B.map lf).take (lft m))).v) && decide (((cb x (n - lft m) (m - lft m) false (P.take (k - 1))).2).v = (hd ((B.map lf).drop (lft m))).v))) && decide ((nd tp ((cb x (n - lft m) (m - lft m) false (P.take (k - 1))).2)).v = (nd (hd ((B.map lf).take (lft m))) (hd ((B.map lf).drop (lft m)))).v)))) := zp 21 (by kernel_rfl) (by kernel_rfl)
      exact ⟨true, want_none rfl, fun _ => .inl ⟨_, _, ex_or (c := true) (b := (F1 || ((!(decide (tp.v = (hd ((A.map lf).take (lft n))).v) && decide (((cb x (n - lft m) (m - lft m) false (P.take (k - 1))).1).v = (hd ((A.map lf).drop (lft n))).v))) && decide ((nd tp ((cb x (n - lft m) (m - lft m) false (P.take (k - 1))).1)).v = (nd (hd ((A.map lf).take (lft n))) (hd ((A.map lf).drop (lft n)))).v)))) (z := ((!(decide (tp.v = (hd ((B.map lf).take (lft m))).v) && decide (((cb x (n - lft m) (m - lft m) false (P.take (k - 1))).2).v = (hd ((B.map lf).drop (lft m))).v))) && decide ((nd tp ((cb x (n - lft m) (m - lft m) false (P.take (k - 1))).2)).v = (nd (hd ((B.map lf).take (lft m))) (hd ((B.map lf).drop (lft m)))).v))) rfl p17 p21 rfl, Upd.refl _ _, fun h => absurd h (by decide), fun T2 N => N.s 140 rfl⟩, fun h => absurd h (by decide), fun h => absurd h (by decide)⟩
    · intro T df v zz zB zp zC
      have qb := zB.1
      have zU := zB.2
      have p22 : T[140]? = some (gw true (.bool ((F1 || ((!(decide (tp.v = (hd ((A.map lf).take (lft n))).v) && decide (((cb x (n - lft m) (m - lft m) false (P.take (k - 1))).1).v = (hd ((A.map lf).drop (lft n))).v))) && decide ((nd tp ((cb x (n - lft m) (m - lft m) false (P.take (k - 1))).1)).v = (nd (hd ((A.map lf).take (lft n))) (hd ((A.map lf).drop (lft n)))).v))) || ((!(decide (tp.v = (hd ((B.map lf).take (lft m))).v) && decide (((cb x (n - lft m) (m - lft m) false (P.take (k - 1))).2).v = (hd ((B.map lf).drop (lft m))).v))) && decide ((nd tp ((cb x (n - lft m) (m - lft m) false (P.take (k - 1))).2)).v = (nd (hd ((B.map lf).take (lft m))) (hd ((B.map lf).drop (lft m)))).v))))) := zp 22 (by kernel_rfl) (by kernel_rfl)
      exact ⟨true, want_none rfl, fun _ => .inl ⟨_, _, ex_move rfl (ev p22 rfl), Upd.refl _ _, fun h => absurd h (by decide), fun T2 N => N.s 141 rfl⟩, fun h => absurd h (by decide), fun h => absurd h (by decide)⟩
    · intro T df v zz zB zp zC
      have qb := zB.1
      have zU := zB.2
      have p23 : T[141]? = some (gw true (.bool ((F1 || ((!(decide (tp.v = (hd ((A.map lf).take (lft n))).v) && decide (((cb x (n - lft m) (m - lft m) false (P.take (k - 1))).1).v = (hd ((A.map lf).drop (lft n))).v))) && decide ((nd tp ((cb x (n - lft m) (m - lft m) false (P.take (k - 1))).1)).v = (nd (hd ((A.map lf).take (lft n))) (hd ((A.map lf).drop (lft n)))).v))) || ((!(decide (tp.v = (hd ((B.map lf).take (lft m))).v) && decide (((cb x (n - lft m) (m - lft m) false (P.take (k - 1))).2).v = (hd ((B.map lf).drop (lft m))).v))) && decide ((nd tp ((cb x (n - lft m) (m - lft m) false (P.take (k - 1))).2)).v = (nd (hd ((B.map lf).take (lft m))) (hd ((B.map lf).drop (lft m)))).v))))) := zp 23 (by kernel_rfl) (by kernel_rfl)
      exact ⟨(true && (((F1 || ((!(decide (tp.v = (hd ((A.map lf).take (lft n))).v) && decide (((cb x (n - lft m) (m - lft m) false (P.take (k - 1))).1).v = (hd ((A.map lf).drop (lft n))).v))) && decide ((nd tp ((cb x (n - lft m) (m - lft m) false (P.take (k - 1))).1)).v = (nd (hd ((A.map lf).take (lft n))) (hd ((A.map lf).drop (lft n)))).v))) || ((!(decide (tp.v = (hd ((B.map lf).take (lft m))).v) && decide (((cb x (n - lft m) (m - lft m) false (P.take (k - 1))).2).v = (hd ((B.map lf).drop (lft m))).v))) && decide ((nd tp ((cb x (n - lft m) (m - lft m) false (P.take (k - 1))).2)).v = (nd (hd ((B.map lf).take (lft m))) (hd ((B.map lf).drop (lft m)))).v))) == false)), want_g rfl rfl p23, fun hc => .inl ⟨_, _, ex_move rfl (qb.e (j := 4) rfl), Upd.refl _ _, fun h => absurd h (by decide), fun T2 N => by rw [hc]; exact N.s 142 rfl⟩, fun _ => rfl, fun hc T2 N => by rw [hc]; exact N.s 142 rfl⟩
    · intro T df v zz zB zp zC
      have qb := zB.1
      have zU := zB.2
      have p23 : T[141]? = some (gw true (.bool ((F1 || ((!(decide (tp.v = (hd ((A.map lf).take (lft n))).v) && decide (((cb x (n - lft m) (m - lft m) false (P.take (k - 1))).1).v = (hd ((A.map lf).drop (lft n))).v))) && decide ((nd tp ((cb x (n - lft m) (m - lft m) false (P.take (k - 1))).1)).v = (nd (hd ((A.map lf).take (lft n))) (hd ((A.map lf).drop (lft n)))).v))) || ((!(decide (tp.v = (hd ((B.map lf).take (lft m))).v) && decide (((cb x (n - lft m) (m - lft m) false (P.take (k - 1))).2).v = (hd ((B.map lf).drop (lft m))).v))) && decide ((nd tp ((cb x (n - lft m) (m - lft m) false (P.take (k - 1))).2)).v = (nd (hd ((B.map lf).take (lft m))) (hd ((B.map lf).drop (lft m)))).v))))) := zp 23 (by kernel_rfl) (by kernel_rfl)
      exact ⟨(true && (((F1 || ((!(decide (tp.v = (hd ((A.map lf).take (lft n))).v) && decide (((cb x (n - lft m) (m - lft m) false (P.take (k - 1))).1).v = (hd ((A.map lf).drop (lft n))).v))) && decide ((nd tp ((cb x (n - lft m) (m - lft m) false (P.take (k - 1))).1)).v = (nd (hd ((A.map lf).take (lft n))) (hd ((A.map lf).drop (lft n)))).v))) || ((!(decide (tp.v = (hd ((B.map lf).take (lft m))).v) && decide (((cb x (n - lft m) (m - lft m) false (P.take (k - 1))).2).v = (hd ((B.map lf).drop (lft m))).v))) && decide ((nd tp ((cb x (n - lft m) (m - lft m) false (P.take (k - 1))).2)).v = (nd (hd ((B.map lf).take (lft m))) (hd ((B.map lf).drop (lft m)))).v))) == false)), want_g rfl rfl p23, fun hc => .inl ⟨_, _, ex_move rfl (qb.e (j := 14) rfl), Upd.refl _ _, fun h => absurd h (by decide), fun T2 N => by rw [hc]; exact N.s 143 rfl⟩, fun _ => rfl, fun hc T2 N => by rw [hc]; exact N.s 143 rfl⟩
    · intro T df v zz zB zp zC
      have qb := zB.1
      have zU := zB.2
      have p23 : T[141]? = some (gw true (.bool ((F1 || ((!(decide (tp.v = (hd ((A.map lf).take (lft n))).v) && decide (((cb x (n - lft m) (m - lft m) false (P.take (k - 1))).1).v = (hd ((A.map lf).drop (lft n))).v))) && decide ((nd tp ((cb x (n - lft m) (m - lft m) false (P.take (k - 1))).1)).v = (nd (hd ((A.map lf).take (lft n))) (hd ((A.map lf).drop (lft n)))).v))) || ((!(decide (tp.v = (hd ((B.map lf).take (lft m))).v) && decide (((cb x (n - lft m) (m - lft m) false (P.take (k - 1))).2).v = (hd ((B.map lf).drop (lft m))).v))) && decide ((nd tp ((cb x (n - lft m) (m - lft m) false (P.take (k - 1))).2)).v = (nd (hd ((B.map lf).take (lft m))) (hd ((B.map lf).drop (lft m)))).v))))) := zp 23 (by kernel_rfl) (by kernel_rfl)
      have p24 : T[142]? = some (gw (true && (((F1 || ((!(decide (tp.v = (hd ((A.map lf).take (lft n))).v) && decide (((cb x (n - lft m) (m - lft m) false (P.take (k - 1))).1).v = (hd ((A.map lf).drop (lft n))).v))) && decide ((nd tp ((cb x (n - lft m) (m - lft m) false (P.take (k - 1))).1)).v = (nd (hd ((A.map lf).take (lft n))) (hd ((A.map lf).drop (lft n)))).v))) || ((!(decide (tp.v = (hd ((B.map lf).take (lft m))).v) && decide (((cb x (n - lft m) (m - lft m) false (P.take (k - 1))).2).v = (hd ((B.map lf).drop (lft m))).v))) && decide ((nd tp ((cb x (n - lft m) (m - lft m) false (P.take (k - 1))).2)).v = (nd (hd ((B.map lf).take (lft m))) (hd ((B.map lf).drop (lft m)))).v))) == false)) (.slice (some ⟨kq12, ko13, none⟩) k c3)) := zp 24 (by kernel_rfl) (by kernel_rfl)
      have p25 : T[143]? = some (gw (true && (((F1 || ((!(decide (tp.v = (hd ((A.map lf).take (lft n))).v) && decide (((cb x (n - lft m) (m - lft m) false (P.take (k - 1))).1).v = (hd ((A.map lf).drop (lft n))).v))) && decide ((nd tp ((cb x (n - lft m) (m - lft m) false (P.take (k - 1))).1)).v = (nd (hd ((A.map lf).take (lft n))) (hd ((A.map lf).drop (lft n)))).v))) || ((!(decide (tp.v = (hd ((B.map lf).take (lft m))).v) && decide (((cb x (n - lft m) (m - lft m) false (P.take (k - 1))).2).v = (hd ((B.map lf).drop (lft m))).v))) && decide ((nd tp ((cb x (n - lft m) (m - lft m) false (P.take (k - 1))).2)).v = (nd (hd ((B.map lf).take (lft m))) (hd ((B.map lf).drop (lft m)))).v))) == false)) (.int .i64 ((k - 1 : Nat) : Int))) := zp 25 (by kernel_rfl) (by kernel_rfl)
      exact ⟨(true && (((F1 || ((!(decide (tp.v = (hd ((A.map lf).take (lft n))).v) && decide (((cb x (n - lft m) (m - lft m) false (P.take (k - 1))).1).v = (hd ((A.map lf).drop (lft n))).v))) && decide ((nd tp ((cb x (n - lft m) (m - lft m) false (P.take (k - 1))).1)).v = (nd (hd ((A.map lf).take (lft n))) (hd ((A.map lf).drop (lft n)))).v))) || ((!(decide (tp.v = (hd ((B.map lf).take (lft m))).v) && decide (((cb x (n - lft m) (m - lft m) false (P.take (k - 1))).2).v = (hd ((B.map lf).drop (lft m))).v))) && decide ((nd tp ((cb x (n - lft m) (m - lft m) false (P.take (k - 1))).2)).v = (nd (hd ((B.map lf).take (lft m))) (hd ((B.map lf).drop (lft m)))).v))) == false)), want_g rfl rfl p23, fun hc => .inl ⟨_, _, ex_ix rfl (ev p24 hc) (ev p25 hc) (ixH kq12 ko13 k c3 (k - 1) (by omega) _), Upd.refl _ _, fun h => absurd h (by decide), fun T2 N => by rw [hc]; exact N.s 144 rfl⟩, fun _ => rfl, fun hc T2 N => by rw [hc]; exact N.s 144 rfl⟩
    · intro T df v zz zB zp zC
      have qb := zB.1
      have zU := zB.2
      have zDw : Below w.heap.size w v := d27.trans (zU.below d27.size (fun k hk => by have hk2 : k = w1.heap.size ∨ k = w3.heap.size := hk; omega))
      have p23 : T[141]? = some (gw true (.bool ((F1 || ((!(decide (tp.v = (hd ((A.map lf).take (lft n))).v) && decide (((cb x (n - lft m) (m - lft m) false (P.take (k - 1))).1).v = (hd ((A.map lf).drop (lft n))).v))) && decide ((nd tp ((cb x (n - lft m) (m - lft m) false (P.take (k - 1))).1)).v = (nd (hd ((A.map lf).take (lft n))) (hd ((A.map lf).drop (lft n)))).v))) || ((!(decide (tp.v = (hd ((B.map lf).take (lft m))).v) && decide (((cb x (n - lft m) (m - lft m) false (P.take (k - 1))).2).v = (hd ((B.map lf).drop (lft m))).v))) && decide ((nd tp ((cb x (n - lft m) (m - lft m) false (P.take (k - 1))).2)).v = (nd (hd ((B.map lf).take (lft m))) (hd ((B.map lf).drop (lft m)))).v))))) := zp 23 (by kernel_rfl) (by kernel_rfl)
      have p26 : T[144]? = some (gw (true && (((F1 || ((!(decide (tp.v = (hd ((A.map lf).take (lft n))).v) && decide (((cb x (n - lft m) (m - lft m) false (P.take (k - 1))).1).v = (hd ((A.map lf).drop (lft n))).v))) && decide ((nd tp ((cb x (n - lft m) (m - lft m) false (P.take (k - 1))).1)).v = (nd (hd ((A.map lf).take (lft n))) (hd ((A.map lf).drop (lft n)))).v))) || ((!(decide (tp.v = (hd ((B.map lf).take (lft m))).v) && decide (((cb x (n - lft m) (m - lft m) false (P.take (k - 1))).2).v = (hd ((B.map lf).drop (lft m))).v))) && decide ((nd tp ((cb x (n - lft m) (m - lft m) false (P.take (k - 1))).2)).v = (nd (hd ((B.map lf).take (lft m))) (hd ((B.map lf).drop (lft m)))).v))) == false)) (.pointer (some ⟨kq12, ko13 + (k - 1) * 32, none⟩))) := zp 26 (by kernel_rfl) (by kernel_rfl)
      exact ⟨(true && (((F1 || ((!(decide (tp.v = (hd ((A.map lf).take (lft n))).v) && decide (((cb x (n - lft m) (m - lft m) false (P.take (k - 1))).1).v = (hd ((A.map lf).drop (lft n))).v))) && decide ((nd tp ((cb x (n - lft m) (m - lft m) false (P.take (k - 1))).1)).v = (nd (hd ((A.map lf).take (lft n))) (hd ((A.map lf).drop (lft n)))).v))) || ((!(decide (tp.v = (hd ((B.map lf).take (lft m))).v) && decide (((cb x (n - lft m) (m - lft m) false (P.take (k - 1))).2).v = (hd ((B.map lf).drop (lft m))).v))) && decide ((nd tp ((cb x (n - lft m) (m - lft m) false (P.take (k - 1))).2)).v = (nd (hd ((B.map lf).take (lft m))) (hd ((B.map lf).drop (lft m)))).v))) == false)), want_g rfl rfl p23, fun hc => .inl ⟨_, _, ex_ld rfl (ev p26 hc) (ldH20 (lkq12.upd (S := fun _ => False) (Upd.of_below zDw) hkq12 id) htp), Upd.refl _ _, fun h => absurd h (by decide), fun T2 N => by rw [hc]; exact N.s 145 rfl⟩, fun _ => rfl, fun hc T2 N => by rw [hc]; exact N.s 145 rfl⟩
    · intro T df v zz zB zp zC
      have qb := zB.1
      have zU := zB.2
      have p23 : T[141]? = some (gw true (.bool ((F1 || ((!(decide (tp.v = (hd ((A.map lf).take (lft n))).v) && decide (((cb x (n - lft m) (m - lft m) false (P.take (k - 1))).1).v = (hd ((A.map lf).drop (lft n))).v))) && decide ((nd tp ((cb x (n - lft m) (m - lft m) false (P.take (k - 1))).1)).v = (nd (hd ((A.map lf).take (lft n))) (hd ((A.map lf).drop (lft n)))).v))) || ((!(decide (tp.v = (hd ((B.map lf).take (lft m))).v) && decide (((cb x (n - lft m) (m - lft m) false (P.take (k - 1))).2).v = (hd ((B.map lf).drop (lft m))).v))) && decide ((nd tp ((cb x (n - lft m) (m - lft m) false (P.take (k - 1))).2)).v = (nd (hd ((B.map lf).take (lft m))) (hd ((B.map lf).drop (lft m)))).v))))) := zp 23 (by kernel_rfl) (by kernel_rfl)
      exact ⟨(true && (((F1 || ((!(decide (tp.v = (hd ((A.map lf).take (lft n))).v) && decide (((cb x (n - lft m) (m - lft m) false (P.take (k - 1))).1).v = (hd ((A.map lf).drop (lft n))).v))) && decide ((nd tp ((cb x (n - lft m) (m - lft m) false (P.take (k - 1))).1)).v = (nd (hd ((A.map lf).take (lft n))) (hd ((A.map lf).drop (lft n)))).v))) || ((!(decide (tp.v = (hd ((B.map lf).take (lft m))).v) && decide (((cb x (n - lft m) (m - lft m) false (P.take (k - 1))).2).v = (hd ((B.map lf).drop (lft m))).v))) && decide ((nd tp ((cb x (n - lft m) (m - lft m) false (P.take (k - 1))).2)).v = (nd (hd ((B.map lf).take (lft m))) (hd ((B.map lf).drop (lft m)))).v))) == false)), want_g rfl rfl p23, fun hc => .inl ⟨_, _, ex_move rfl (qb.e (j := 0) rfl), Upd.refl _ _, fun h => absurd h (by decide), fun T2 N => by rw [hc]; exact N.s 146 rfl⟩, fun _ => rfl, fun hc T2 N => by rw [hc]; exact N.s 146 rfl⟩
    · intro T df v zz zB zp zC
      have qb := zB.1
      have zU := zB.2
      have p23 : T[141]? = some (gw true (.bool ((F1 || ((!(decide (tp.v = (hd ((A.map lf).take (lft n))).v) && decide (((cb x (n - lft m) (m - lft m) false (P.take (k - 1))).1).v = (hd ((A.map lf).drop (lft n))).v))) && decide ((nd tp ((cb x (n - lft m) (m - lft m) false (P.take (k - 1))).1)).v = (nd (hd ((A.map lf).take (lft n))) (hd ((A.map lf).drop (lft n)))).v))) || ((!(decide (tp.v = (hd ((B.map lf).take (lft m))).v) && decide (((cb x (n - lft m) (m - lft m) false (P.take (k - 1))).2).v = (hd ((B.map lf).drop (lft m))).v))) && decide ((nd tp ((cb x (n - lft m) (m - lft m) false (P.take (k - 1))).2)).v = (nd (hd ((B.map lf).take (lft m))) (hd ((B.map lf).drop (lft m)))).v))))) := zp 23 (by kernel_rfl) (by kernel_rfl)
      exact ⟨(true && (((F1 || ((!(decide (tp.v = (hd ((A.map lf).take (lft n))).v) && decide (((cb x (n - lft m) (m - lft m) false (P.take (k - 1))).1).v = (hd ((A.map lf).drop (lft n))).v))) && decide ((nd tp ((cb x (n - lft m) (m - lft m) false (P.take (k - 1))).1)).v = (nd (hd ((A.map lf).take (lft n))) (hd ((A.map lf).drop (lft n)))).v))) || ((!(decide (tp.v = (hd ((B.map lf).take (lft m))).v) && decide (((cb x (n - lft m) (m - lft m) false (P.take (k - 1))).2).v = (hd ((B.map lf).drop (lft m))).v))) && decide ((nd tp ((cb x (n - lft m) (m - lft m) false (P.take (k - 1))).2)).v = (nd (hd ((B.map lf).take (lft m))) (hd ((B.map lf).drop (lft m)))).v))) == false)), want_g rfl rfl p23, fun hc => .inl ⟨_, _, ex_move rfl (qb.e (j := 13) rfl), Upd.refl _ _, fun h => absurd h (by decide), fun T2 N => by rw [hc]; exact N.s 147 rfl⟩, fun _ => rfl, fun hc T2 N => by rw [hc]; exact N.s 147 rfl⟩
    · intro T df v zz zB zp zC
      have qb := zB.1
      have zU := zB.2
      have p23 : T[141]? = some (gw true (.bool ((F1 || ((!(decide (tp.v = (hd ((A.map lf).take (lft n))).v) && decide (((cb x (n - lft m) (m - lft m) false (P.take (k - 1))).1).v = (hd ((A.map lf).drop (lft n))).v))) && decide ((nd tp ((cb x (n - lft m) (m - lft m) false (P.take (k - 1))).1)).v = (nd (hd ((A.map lf).take (lft n))) (hd ((A.map lf).drop (lft n)))).v))) || ((!(decide (tp.v = (hd ((B.map lf).take (lft m))).v) && decide (((cb x (n - lft m) (m - lft m) false (P.take (k - 1))).2).v = (hd ((B.map lf).drop (lft m))).v))) && decide ((nd tp ((cb x (n - lft m) (m - lft m) false (P.take (k - 1))).2)).v = (nd (hd ((B.map lf).take (lft m))) (hd ((B.map lf).drop (lft m)))).v))))) := zp 23 (by kernel_rfl) (by kernel_rfl)
      have p28 : T[146]? = some (gw (true && (((F1 || ((!(decide (tp.v = (hd ((A.map lf).take (lft n))).v) && decide (((cb x (n - lft m) (m - lft m) false (P.take (k - 1))).1).v = (hd ((A.map lf).drop (lft n))).v))) && decide ((nd tp ((cb x (n - lft m) (m - lft m) false (P.take (k - 1))).1)).v = (nd (hd ((A.map lf).take (lft n))) (hd ((A.map lf).drop (lft n)))).v))) || ((!(decide (tp.v = (hd ((B.map lf).take (lft m))).v) && decide (((cb x (n - lft m) (m - lft m) false (P.take (k - 1))).2).v = (hd ((B.map lf).drop (lft m))).v))) && decide ((nd tp ((cb x (n - lft m) (m - lft m) false (P.take (k - 1))).2)).v = (nd (hd ((B.map lf).take (lft m))) (hd ((B.map lf).drop (lft m)))).v))) == false)) (.slice (some ⟨kq8, ko9, none⟩) n c)) := zp 28 (by kernel_rfl) (by kernel_rfl)
      have p29 : T[147]? = some (gw (true && (((F1 || ((!(decide (tp.v = (hd ((A.map lf).take (lft n))).v) && decide (((cb x (n - lft m) (m - lft m) false (P.take (k - 1))).1).v = (hd ((A.map lf).drop (lft n))).v))) && decide ((nd tp ((cb x (n - lft m) (m - lft m) false (P.take (k - 1))).1)).v = (nd (hd ((A.map lf).take (lft n))) (hd ((A.map lf).drop (lft n)))).v))) || ((!(decide (tp.v = (hd ((B.map lf).take (lft m))).v) && decide (((cb x (n - lft m) (m - lft m) false (P.take (k - 1))).2).v = (hd ((B.map lf).drop (lft m))).v))) && decide ((nd tp ((cb x (n - lft m) (m - lft m) false (P.take (k - 1))).2)).v = (nd (hd ((B.map lf).take (lft m))) (hd ((B.map lf).drop (lft m)))).v))) == false)) (.int .i64 ((lft m : Nat) : Int))) := zp 29 (by kernel_rfl) (by kernel_rfl)
      exact ⟨(true && (((F1 || ((!(decide (tp.v = (hd ((A.map lf).take (lft n))).v) && decide (((cb x (n - lft m) (m - lft m) false (P.take (k - 1))).1).v = (hd ((A.map lf).drop (lft n))).v))) && decide ((nd tp ((cb x (n - lft m) (m - lft m) false (P.take (k - 1))).1)).v = (nd (hd ((A.map lf).take (lft n))) (hd ((A.map lf).drop (lft n)))).v))) || ((!(decide (tp.v = (hd ((B.map lf).take (lft m))).v) && decide (((cb x (n - lft m) (m - lft m) false (P.take (k - 1))).2).v = (hd ((B.map lf).drop (lft m))).v))) && decide ((nd tp ((cb x (n - lft m) (m - lft m) false (P.take (k - 1))).2)).v = (nd (hd ((B.map lf).take (lft m))) (hd ((B.map lf).drop (lft m)))).v))) == false)), want_g rfl rfl p23, fun hc => .inl ⟨_, _, ex_sl19 rfl (ev p28 hc) rfl (congrArg some (ev p29 hc)) rfl (slToE20 kq8 ko9 n c (lft m) (by omega) (ckq8) _), Upd.refl _ _, fun h => absurd h (by decide), fun T2 N => by rw [hc]; exact N.s 148 rfl⟩, fun _ => rfl, fun hc T2 N => by rw [hc]; exact N.s 148 rfl⟩
    · intro T df v zz zB zp zC
      have qb := zB.1
      have zU := zB.2
      have p23 : T[141]? = some (gw true (.bool ((F1 || ((!(decide (tp.v = (hd ((A.map lf).take (lft n))).v) && decide (((cb x (n - lft m) (m - lft m) false (P.take (k - 1))).1).v = (hd ((A.map lf).drop (lft n))).v))) && decide ((nd tp ((cb x (n - lft m) (m - lft m) false (P.take (k - 1))).1)).v = (nd (hd ((A.map lf).take (lft n))) (hd ((A.map lf).drop (lft n)))).v))) || ((!(decide (tp.v = (hd ((B.map lf).take (lft m))).v) && decide (((cb x (n - lft m) (m - lft m) false (P.take (k - 1))).2).v = (hd ((B.map lf).drop (lft m))).v))) && decide ((nd tp ((cb x (n - lft m) (m - lft m) false (P.take (k - 1))).2)).v = (nd (hd ((B.map lf).take (lft m))) (hd ((B.map lf).drop (lft m)))).v))))) := zp 23 (by kernel_rfl) (by kernel_rfl)
      exact ⟨(true && (((F1 || ((!(decide (tp.v = (hd ((A.map lf).take (lft n))).v) && decide (((cb x (n - lft m) (m - lft m) false (P.take (k - 1))).1).v = (hd ((A.map lf).drop (lft n))).v))) && decide ((nd tp ((cb x (n - lft m) (m - lft m) false (P.take (k - 1))).1)).v = (nd (hd ((A.map lf).take (lft n))) (hd ((A.map lf).drop (lft n)))).v))) || ((!(decide (tp.v = (hd ((B.map lf).take (lft m))).v) && decide (((cb x (n - lft m) (m - lft m) false (P.take (k - 1))).2).v = (hd ((B.map lf).drop (lft m))).v))) && decide ((nd tp ((cb x (n - lft m) (m - lft m) false (P.take (k - 1))).2)).v = (nd (hd ((B.map lf).take (lft m))) (hd ((B.map lf).drop (lft m)))).v))) == false)), want_g rfl rfl p23, fun hc => .inl ⟨_, _, ex_move rfl (qb.e (j := 1) rfl), Upd.refl _ _, fun h => absurd h (by decide), fun T2 N => by rw [hc]; exact N.s 149 rfl⟩, fun _ => rfl, fun hc T2 N => by rw [hc]; exact N.s 149 rfl⟩
    · intro T df v zz zB zp zC
      have qb := zB.1
      have zU := zB.2
      have p23 : T[141]? = some (gw true (.bool ((F1 || ((!(decide (tp.v = (hd ((A.map lf).take (lft n))).v) && decide (((cb x (n - lft m) (m - lft m) false (P.take (k - 1))).1).v = (hd ((A.map lf).drop (lft n))).v))) && decide ((nd tp ((cb x (n - lft m) (m - lft m) false (P.take (k - 1))).1)).v = (nd (hd ((A.map lf).take (lft n))) (hd ((A.map lf).drop (lft n)))).v))) || ((!(decide (tp.v = (hd ((B.map lf).take (lft m))).v) && decide (((cb x (n - lft m) (m - lft m) false (P.take (k - 1))).2).v = (hd ((B.map lf).drop (lft m))).v))) && decide ((nd tp ((cb x (n - lft m) (m - lft m) false (P.take (k - 1))).2)).v = (nd (hd ((B.map lf).take (lft m))) (hd ((B.map lf).drop (lft m)))).v))))) := zp 23 (by kernel_rfl) (by kernel_rfl)
      exact ⟨(true && (((F1 || ((!(decide (tp.v = (hd ((A.map lf).take (lft n))).v) && decide (((cb x (n - lft m) (m - lft m) false (P.take (k - 1))).1).v = (hd ((A.map lf).drop (lft n))).v))) && decide ((nd tp ((cb x (n - lft m) (m - lft m) false (P.take (k - 1))).1)).v = (nd (hd ((A.map lf).take (lft n))) (hd ((A.map lf).drop (lft n)))).v))) || ((!(decide (tp.v = (hd ((B.map lf).take (lft m))).v) && decide (((cb x (n - lft m) (m - lft m) false (P.take (k - 1))).2).v = (hd ((B.map lf).drop (lft m))).v))) && decide ((nd tp ((cb x (n - lft m) (m - lft m) false (P.take (k - 1))).2)).v = (nd (hd ((B.map lf).take (lft m))) (hd ((B.map lf).drop (lft m)))).v))) == false)), want_g rfl rfl p23, fun hc => .inl ⟨_, _, ex_move rfl (qb.e (j := 13) rfl), Upd.refl _ _, fun h => absurd h (by decide), fun T2 N => by rw [hc]; exact N.s 150 rfl⟩, fun _ => rfl, fun hc T2 N => by rw [hc]; exact N.s 150 rfl⟩
    · intro T df v zz zB zp zC
      have qb := zB.1
      have zU := zB.2
      have p23 : T[141]? = some (gw true (.bool ((F1 || ((!(decide (tp.v = (hd ((A.map lf).take (lft n))).v) && decide (((cb x (n - lft m) (m - lft m) false (P.take (k - 1))).1).v = (hd ((A.map lf).drop (lft n))).v))) && decide ((nd tp ((cb x (n - lft m) (m - lft m) false (P.take (k - 1))).1)).v = (nd (hd ((A.map lf).take (lft n))) (hd ((A.map lf).drop (lft n)))).v))) || ((!(decide (tp.v = (hd ((B.map lf).take (lft m))).v) && decide (((cb x (n - lft m) (m - lft m) false (P.take (k - 1))).2).v = (hd ((B.map lf).drop (lft m))).v))) && decide ((nd tp ((cb x (n - lft m) (m - lft m) false (P.take (k - 1))).2)).v = (nd (hd ((B.map lf).take (lft m))) (hd ((B.map lf).drop (lft m)))).v))))) := zp 23 (by kernel_rfl) (by kernel_rfl)
      have p31 : T[149]? = some (gw (true && (((F1 || ((!(decide (tp.v = (hd ((A.map lf).take (lft n))).v) && decide (((cb x (n - lft m) (m - lft m) false (P.take (k - 1))).1).v = (hd ((A.map lf).drop (lft n))).v))) && decide ((nd tp ((cb x (n - lft m) (m - lft m) false (P.take (k - 1))).1)).v = (nd (hd ((A.map lf).take (lft n))) (hd ((A.map lf).drop (lft n)))).v))) || ((!(decide (tp.v = (hd ((B.map lf).take (lft m))).v) && decide (((cb x (n - lft m) (m - lft m) false (P.take (k - 1))).2).v = (hd ((B.map lf).drop (lft m))).v))) && decide ((nd tp ((cb x (n - lft m) (m - lft m) false (P.take (k - 1))).2)).v = (nd (hd ((B.map lf).take (lft m))) (hd ((B.map lf).drop (lft m)))).v))) == false)) (.slice (some ⟨kq10, ko11, none⟩) m c2)) := zp 31 (by kernel_rfl) (by kernel_rfl)
      have p32 : T[150]? = some (gw (true && (((F1 || ((!(decide (tp.v = (hd ((A.map lf).take (lft n))).v) && decide (((cb x (n - lft m) (m - lft m) false (P.take (k - 1))).1).v = (hd ((A.map lf).drop (lft n))).v))) && decide ((nd tp ((cb x (n - lft m) (m - lft m) false (P.take (k - 1))).1)).v = (nd (hd ((A.map lf).take (lft n))) (hd ((A.map lf).drop (lft n)))).v))) || ((!(decide (tp.v = (hd ((B.map lf).take (lft m))).v) && decide (((cb x (n - lft m) (m - lft m) false (P.take (k - 1))).2).v = (hd ((B.map lf).drop (lft m))).v))) && decide ((nd tp ((cb x (n - lft m) (m - lft m) false (P.take (k - 1))).2)).v = (nd (hd ((B.map lf).take (lft m))) (hd ((B.map lf).drop (lft m)))).v))) == false)) (.int .i64 ((lft m : Nat) : Int))) := zp 32 (by kernel_rfl) (by kernel_rfl)
      exact ⟨(true && (((F1 || ((!(decide (tp.v = (hd ((A.map lf).take (lft n))).v) && decide (((cb x (n - lft m) (m - lft m) false (P.take (k - 1))).1).v = (hd ((A.map lf).drop (lft n))).v))) && decide ((nd tp ((cb x (n - lft m) (m - lft m) false (P.take (k - 1))).1)).v = (nd (hd ((A.map lf).take (lft n))) (hd ((A.map lf).drop (lft n)))).v))) || ((!(decide (tp.v = (hd ((B.map lf).take (lft m))).v) && decide (((cb x (n - lft m) (m - lft m) false (P.take (k - 1))).2).v = (hd ((B.map lf).drop (lft m))).v))) && decide ((nd tp ((cb x (n - lft m) (m - lft m) false (P.take (k - 1))).2)).v = (nd (hd ((B.map lf).take (lft m))) (hd ((B.map lf).drop (lft m)))).v))) == false)), want_g rfl rfl p23, fun hc => .inl ⟨_, _, ex_sl19 rfl (ev p31 hc) rfl (congrArg some (ev p32 hc)) rfl (slToE20 kq10 ko11 m c2 (lft m) (by omega) (ckq10) _), Upd.refl _ _, fun h => absurd h (by decide), fun T2 N => by rw [hc]; exact N.s 151 rfl⟩, fun _ => rfl, fun hc T2 N => by rw [hc]; exact N.s 151 rfl⟩
    · intro T df v zz zB zp zC
      have qb := zB.1
      have zU := zB.2
      have zDw : Below w.heap.size w v := d27.trans (zU.below d27.size (fun k hk => by have hk2 : k = w1.heap.size ∨ k = w3.heap.size := hk; omega))
      have p23 : T[141]? = some (gw true (.bool ((F1 || ((!(decide (tp.v = (hd ((A.map lf).take (lft n))).v) && decide (((cb x (n - lft m) (m - lft m) false (P.take (k - 1))).1).v = (hd ((A.map lf).drop (lft n))).v))) && decide ((nd tp ((cb x (n - lft m) (m - lft m) false (P.take (k - 1))).1)).v = (nd (hd ((A.map lf).take (lft n))) (hd ((A.map lf).drop (lft n)))).v))) || ((!(decide (tp.v = (hd ((B.map lf).take (lft m))).v) && decide (((cb x (n - lft m) (m - lft m) false (P.take (k - 1))).2).v = (hd ((B.map lf).drop (lft m))).v))) && decide ((nd tp ((cb x (n - lft m) (m - lft m) false (P.take (k - 1))).2)).v = (nd (hd ((B.map lf).take (lft m))) (hd ((B.map lf).drop (lft m)))).v))))) := zp 23 (by kernel_rfl) (by kernel_rfl)
      have p27 : T[145]? = some (gw (true && (((F1 || ((!(decide (tp.v = (hd ((A.map lf).take (lft n))).v) && decide (((cb x (n - lft m) (m - lft m) false (P.take (k - 1))).1).v = (hd ((A.map lf).drop (lft n))).v))) && decide ((nd tp ((cb x (n - lft m) (m - lft m) false (P.take (k - 1))).1)).v = (nd (hd ((A.map lf).take (lft n))) (hd ((A.map lf).drop (lft n)))).v))) || ((!(decide (tp.v = (hd ((B.map lf).take (lft m))).v) && decide (((cb x (n - lft m) (m - lft m) false (P.take (k - 1))).2).v = (hd ((B.map lf).drop (lft m))).v))) && decide ((nd tp ((cb x (n - lft m) (m - lft m) false (P.take (k - 1))).2)).v = (nd (hd ((B.map lf).take (lft m))) (hd ((B.map lf).drop (lft m)))).v))) == false)) (tp.val)) := zp 27 (by kernel_rfl) (by kernel_rfl)
      have p30 : T[148]? = some (gw (true && (((F1 || ((!(decide (tp.v = (hd ((A.map lf).take (lft n))).v) && decide (((cb x (n - lft m) (m - lft m) false (P.take (k - 1))).1).v = (hd ((A.map lf).drop (lft n))).v))) && decide ((nd tp ((cb x (n - lft m) (m - lft m) false (P.take (k - 1))).1)).v = (nd (hd ((A.map lf).take (lft n))) (hd ((A.map lf).drop (lft n)))).v))) || ((!(decide (tp.v = (hd ((B.map lf).take (lft m))).v) && decide (((cb x (n - lft m) (m - lft m) false (P.take (k - 1))).2).v = (hd ((B.map lf).drop (lft m))).v))) && decide ((nd tp ((cb x (n - lft m) (m - lft m) false (P.take (k - 1))).2)).v = (nd (hd ((B.map lf).take (lft m))) (hd ((B.map lf).drop (lft m)))).v))) == false)) (.slice (some ⟨kq8, ko9, none⟩) (lft m) c)) := zp 30 (by kernel_rfl) (by kernel_rfl)
      have p33 : T[151]? = some (gw (true && (((F1 || ((!(decide (tp.v = (hd ((A.map lf).take (lft n))).v) && decide (((cb x (n - lft m) (m - lft m) false (P.take (k - 1))).1).v = (hd ((A.map lf).drop (lft n))).v))) && decide ((nd tp ((cb x (n - lft m) (m - lft m) false (P.take (k - 1))).1)).v = (nd (hd ((A.map lf).take (lft n))) (hd ((A.map lf).drop (lft n)))).v))) || ((!(decide (tp.v = (hd ((B.map lf).take (lft m))).v) && decide (((cb x (n - lft m) (m - lft m) false (P.take (k - 1))).2).v = (hd ((B.map lf).drop (lft m))).v))) && decide ((nd tp ((cb x (n - lft m) (m - lft m) false (P.take (k - 1))).2)).v = (nd (hd ((B.map lf).take (lft m))) (hd ((B.map lf).drop (lft m)))).v))) == false)) (.slice (some ⟨kq10, ko11, none⟩) (lft m) c2)) := zp 33 (by kernel_rfl) (by kernel_rfl)
      refine ⟨(true && (((F1 || ((!(decide (tp.v = (hd ((A.map lf).take (lft n))).v) && decide (((cb x (n - lft m) (m - lft m) false (P.take (k - 1))).1).v = (hd ((A.map lf).drop (lft n))).v))) && decide ((nd tp ((cb x (n - lft m) (m - lft m) false (P.take (k - 1))).1)).v = (nd (hd ((A.map lf).take (lft n))) (hd ((A.map lf).drop (lft n)))).v))) || ((!(decide (tp.v = (hd ((B.map lf).take (lft m))).v) && decide (((cb x (n - lft m) (m - lft m) false (P.take (k - 1))).2).v = (hd ((B.map lf).drop (lft m))).v))) && decide ((nd tp ((cb x (n - lft m) (m - lft m) false (P.take (k - 1))).2)).v = (nd (hd ((B.map lf).take (lft m))) (hd ((B.map lf).drop (lft m)))).v))) == false)), want_g rfl rfl p23, fun hc => .inr (.inr ⟨_, _, _, ex_call rfl (by simp only [List.map_toArray, List.map_cons, List.map_nil, (ev p27 hc), (ev p30 hc), (ev p33 hc), evc] <;> rfl) rfl, met20 tp _ _ _ _ _ _ _ v ((hA.later zDw).take (lft m) (by omega)) ((hB.later zDw).take (lft m) (by omega)) (by omega) (fun x hx => hvA x (List.mem_of_mem_take hx)) (fun x hx => hvB x (List.mem_of_mem_take hx)), ?_⟩), fun _ => rfl, fun hc T2 N => by rw [hc]; exact N.s 152 rfl⟩
      rintro e w9 ⟨rfl, b9⟩
      exact ⟨_, rfl, Upd.of_below b9, fun h => absurd h (by decide), fun T2 N => by rw [hc]; exact N.s 152 rfl⟩
    · intro T df v zz zB zp zC
      have qb := zB.1
      have zU := zB.2
      have p23 : T[141]? = some (gw true (.bool ((F1 || ((!(decide (tp.v = (hd ((A.map lf).take (lft n))).v) && decide (((cb x (n - lft m) (m - lft m) false (P.take (k - 1))).1).v = (hd ((A.map lf).drop (lft n))).v))) && decide ((nd tp ((cb x (n - lft m) (m - lft m) false (P.take (k - 1))).1)).v = (nd (hd ((A.map lf).take (lft n))) (hd ((A.map lf).drop (lft n)))).v))) || ((!(decide (tp.v = (hd ((B.map lf).take (lft m))).v) && decide (((cb x (n - lft m) (m - lft m) false (P.take (k - 1))).2).v = (hd ((B.map lf).drop (lft m))).v))) && decide ((nd tp ((cb x (n - lft m) (m - lft m) false (P.take (k - 1))).2)).v = (nd (hd ((B.map lf).take (lft m))) (hd ((B.map lf).drop (lft m)))).v))))) := zp 23 (by kernel_rfl) (by kernel_rfl)
      have p34 : T[152]? = some (gw (true && (((F1 || ((!(decide (tp.v = (hd ((A.map lf).take (lft n))).v) && decide (((cb x (n - lft m) (m - lft m) false (P.take (k - 1))).1).v = (hd ((A.map lf).drop (lft n))).v))) && decide ((nd tp ((cb x (n - lft m) (m - lft m) false (P.take (k - 1))).1)).v = (nd (hd ((A.map lf).take (lft n))) (hd ((A.map lf).drop (lft n)))).v))) || ((!(decide (tp.v = (hd ((B.map lf).take (lft m))).v) && decide (((cb x (n - lft m) (m - lft m) false (P.take (k - 1))).2).v = (hd ((B.map lf).drop (lft m))).v))) && decide ((nd tp ((cb x (n - lft m) (m - lft m) false (P.take (k - 1))).2)).v = (nd (hd ((B.map lf).take (lft m))) (hd ((B.map lf).drop (lft m)))).v))) == false)) (.bool (decide (MtP tp (A.take (lft m)) (B.take (lft m)))))) := zp 34 (by kernel_rfl) (by kernel_rfl)
      exact ⟨true, want_none rfl, fun _ => .inl ⟨_, _, ex_or (c := true) (b := ((F1 || ((!(decide (tp.v = (hd ((A.map lf).take (lft n))).v) && decide (((cb x (n - lft m) (m - lft m) false (P.take (k - 1))).1).v = (hd ((A.map lf).drop (lft n))).v))) && decide ((nd tp ((cb x (n - lft m) (m - lft m) false (P.take (k - 1))).1)).v = (nd (hd ((A.map lf).take (lft n))) (hd ((A.map lf).drop (lft n)))).v))) || ((!(decide (tp.v = (hd ((B.map lf).take (lft m))).v) && decide (((cb x (n - lft m) (m - lft m) false (P.take (k - 1))).2).v = (hd ((B.map lf).drop (lft m))).v))) && decide ((nd tp ((cb x (n - lft m) (m - lft m) false (P.take (k - 1))).2)).v = (nd (hd ((B.map lf).take (lft m))) (hd ((B.map lf).drop (lft m)))).v)))) (z := (decide (MtP tp (A.take (lft m)) (B.take (lft m))))) rfl p23 p34 rfl, Upd.refl _ _, fun h => absurd h (by decide), fun T2 N => N.s 153 rfl⟩, fun h => absurd h (by decide), fun h => absurd h (by decide)⟩
    · intro T df v zz zB zp zC
      have qb := zB.1
      have zU := zB.2
      have p4 : T[122]? = some (gw true ((nd tp ((cb x (n - lft m) (m - lft m) false (P.take (k - 1))).1)).val)) := zp 4 (by kernel_rfl) (by kernel_rfl)
      have hq : BB v w1.heap.size 24 (zH.cs) := zC 36 _ rfl (.inl rfl)
      exact ⟨_, want_none rfl, fun _ => .inr (.inl ⟨_, ex_st rfl (qb.e (j := 10) rfl) (ev p4 rfl) (hq.stH rfl _), (upd18 _ _ _ _).sub20 (fun k hk => by have hk2 : k = w1.heap.size := hk; show (36 = 36 ∧ k = w1.heap.size) ∨ (36 = 37 ∧ k = w3.heap.size); omega), fun h => absurd h (by decide), fun T2 N => hq.putH rfl _⟩), fun h => absurd h (by decide), fun h => absurd h (by decide)⟩
    · intro T df v zz zB zp zC
      have qb := zB.1
      have zU := zB.2
      have p9 : T[127]? = some (gw true ((nd tp ((cb x (n - lft m) (m - lft m) false (P.take (k - 1))).2)).val)) := zp 9 (by kernel_rfl) (by kernel_rfl)
      have hq : BB v w3.heap.size 24 (zH.cs) := zC 37 _ rfl (.inl rfl)
      exact ⟨_, want_none rfl, fun _ => .inr (.inl ⟨_, ex_st rfl (qb.e (j := 11) rfl) (ev p9 rfl) (hq.stH rfl _), (upd18 _ _ _ _).sub20 (fun k hk => by have hk2 : k = w3.heap.size := hk; show (37 = 36 ∧ k = w1.heap.size) ∨ (37 = 37 ∧ k = w3.heap.size); omega), fun h => absurd h (by decide), fun T2 N => hq.putH rfl _⟩), fun h => absurd h (by decide), fun h => absurd h (by decide)⟩
    · intro T df v zz zB zp zC
      have qb := zB.1
      have zU := zB.2
      have p35 : T[153]? = some (gw true (.bool (((F1 || ((!(decide (tp.v = (hd ((A.map lf).take (lft n))).v) && decide (((cb x (n - lft m) (m - lft m) false (P.take (k - 1))).1).v = (hd ((A.map lf).drop (lft n))).v))) && decide ((nd tp ((cb x (n - lft m) (m - lft m) false (P.take (k - 1))).1)).v = (nd (hd ((A.map lf).take (lft n))) (hd ((A.map lf).drop (lft n)))).v))) || ((!(decide (tp.v = (hd ((B.map lf).take (lft m))).v) && decide (((cb x (n - lft m) (m - lft m) false (P.take (k - 1))).2).v = (hd ((B.map lf).drop (lft m))).v))) && decide ((nd tp ((cb x (n - lft m) (m - lft m) false (P.take (k - 1))).2)).v = (nd (hd ((B.map lf).take (lft m))) (hd ((B.map lf).drop (lft m)))).v))) || (decide (MtP tp (A.take (lft m)) (B.take (lft m))))))) := zp 35 (by kernel_rfl) (by kernel_rfl)
      exact ⟨true, want_none rfl, fun _ => .inl ⟨_, _, ex_assign rfl (ev p35 rfl), Upd.refl _ _, fun h => absurd h (by decide), fun T2 N => N.s 12 rfl⟩, fun h => absurd h (by decide), fun h => absurd h (by decide)⟩
  intro T v32 zz zB zq za
  have qb := zB.1
  have U33 := zB.2
  clear zB zz
  clear q24
  have d34 : Below w.heap.size w v32 := d27.trans (U33.below (Nat.le_trans d27.size (Nat.le_refl _)) (fun k hk => by have hk2 : k = w1.heap.size ∨ k = w3.heap.size := hk; omega))
  have zv32 := U33.size
  have B35 : BB v32 w1.heap.size 24 ((nd tp ((cb x (n - lft m) (m - lft m) false (P.take (k - 1))).1)).cs) := zq 36 _ rfl (fun k => rfl)
  have B36 : BB v32 w3.heap.size 24 ((nd tp ((cb x (n - lft m) (m - lft m) false (P.take (k - 1))).2)).cs) := zq 37 _ rfl (fun k => rfl)
  have p38 : T[12]? = some (gw true (.bool (((F1 || ((!(decide (tp.v = (hd ((A.map lf).take (lft n))).v) && decide (((cb x (n - lft m) (m - lft m) false (P.take (k - 1))).1).v = (hd ((A.map lf).drop (lft n))).v))) && decide ((nd tp ((cb x (n - lft m) (m - lft m) false (P.take (k - 1))).1)).v = (nd (hd ((A.map lf).take (lft n))) (hd ((A.map lf).drop (lft n)))).v))) || ((!(decide (tp.v = (hd ((B.map lf).take (lft m))).v) && decide (((cb x (n - lft m) (m - lft m) false (P.take (k - 1))).2).v = (hd ((B.map lf).drop (lft m))).v))) && decide ((nd tp ((cb x (n - lft m) (m - lft m) false (P.take (k - 1))).2)).v = (nd (hd ((B.map lf).take (lft m))) (hd ((B.map lf).drop (lft m)))).v))) || (decide (MtP tp (A.take (lft m)) (B.take (lft m))))))) := zq 38 _ rfl (fun k => rfl)
  have q25 := (qb.cons p38)
  clear zq za qb p38
  go_wp2
  exact bodyPost_ret (resHHT20 rfl (q25.a 10 rfl) (q25.a 11 rfl) (q25.a 12 rfl) B35 B36) rfl ⟨rfl, d34⟩
end Go.Proofs.Ytfafhlahbhopaaa
namespace Go.Proofs.Ytfafhlahbhopaaa
open Go.RowKit Go.Maps
open Classical
theorem getD_last20 {P : List Hs} {k : Nat} (hl : P.length = k) (hk : 1 ≤ k) : P[k - 1]? = some (P.getD (P.length - 1) zH) := by
  rw [List.getD_eq_getElem?_getD, hl, List.getElem?_eq_getElem (by omega)]
  rfl
theorem one_or {a b c d : Hs} (h : nd a b = nd c d) : (a = c ∧ b = d) ∨ ((!(decide ((a).v = (c).v) && decide ((b).v = (d).v))) && decide ((nd (a) (b)).v = (nd (c) (d)).v)) = true := by
  by_cases h1 : a.v = c.v <;> by_cases h2 : b.v = d.v
  · exact .inl ⟨Hs.ext20 h1, Hs.ext20 h2⟩
  · exact .inr (by rw [h]; simp [h2])
  · exact .inr (by rw [h]; simp [h1])
  · exact .inr (by rw [h]; simp [h1])
theorem take_ne20 {A B : List En} {n K : Nat} (hA : A.length = n) (hnK : K ≤ n) (hne : ¬ A = B.take n) (ht : A.take K = B.take K) : ¬ A.drop K = (B.drop K).take (n - K) := by
  intro e
  apply hne
  rw [← List.take_append_drop K A, e, ht]
  rw [show n = K + (n - K) by omega, List.take_add]
  rw [show K + (n - K) - K = n - K by omega]
set_option maxHeartbeats 1000000 in
theorem steps_ex : ∀ (N : Nat) (A B : List En) (wh : Bool) (x : Hs) (P : List Hs) (n m k : Nat), A.length = n → B.length = m → P.length = k → m ≤ N → 1 ≤ n → n ≤ m → m ≤ 1000000 → k = sa n m wh → (∀ x ∈ A, x.o.v.size ≤ 140737488352232) → (∀ x ∈ B, x.o.v.size ≤ 140737488352232) →
    ∃ F : Bool, ((cb x n m wh P).1 = hd (A.map lf) → (cb x n m wh P).2 = hd (B.map lf) → ¬ A = B.take n → F = true) ∧ ∀ (a : Option Addr) (c : Nat) (a2 : Option Addr) (c2 : Nat) (a3 : Option Addr) (c3 : Nat) (w : World), SlY yE w a n c A → SlY yE w a2 m c2 B → SlY yH w a3 k c3 P → Calls Try.prog 35 #[.slice a n c, .slice a2 m c2, .bool wh, x.val, .slice a3 k c3] w fun e w' => e = .returned (.tuple #[(cb x n m wh P).1.val, (cb x n m wh P).2.val, .bool F]) ∧ Below w.heap.size w w'
  | 0, _, _, _, _, _, _, _, _, _, _, _, _, _, h, _, _, _, _ => by omega
  | N + 1, A, B, wh, x, P, n, m, k, lA, lB, lP, hN, h1, hnm, hm, hk, hvA, hvB => by
    by_cases e : n = m
    · subst e
      have hcb := cb_e x n wh P
      have hsa := sa_e n wh
      rw [← hk] at hsa
      have hB : B.take n = B := List.take_of_length_le (by omega)
      cases wh with
      | true =>
        have hcb : cb x n n true P = (x, x) := hcb
        rw [hcb, hB]
        exact ⟨decide (MtP x A B), fun e1 e2 hne => mt_true e1.symm e2.symm hne, fun a c a2 c2 a3 c3 w hA hB hP => steps_eT A B n x P k a c a2 c2 a3 c3 w hA hB hP (by omega) hvA hvB⟩
      | false =>
        have hcb : cb x n n false P = (P.getD 0 zH, P.getD 0 zH) := hcb
        have hk1 : k = 1 := hsa
        rw [hcb, hB]
        have hy : P[0]? = some (P.getD 0 zH) := by
          rw [List.getD_eq_getElem?_getD, List.getElem?_eq_getElem (by omega)]
          rfl
        exact ⟨decide (MtP (P.getD 0 zH) A B), fun e1 e2 hne => mt_true e1.symm e2.symm hne, fun a c a2 c2 a3 c3 w hA hB hP => steps_eF A B n x (P.getD 0 zH) P k hy (by omega) a c a2 c2 a3 c3 w hA hB hP (by omega) hvA hvB⟩
    · have hb := lft_b (n := m) (by omega)
      have hsl := sa_le m n wh h1 hnm
      have e2 := hd_2 (B.map lf) (by rw [List.length_map]; omega)
      rw [List.length_map, lB] at e2
      by_cases hp : n ≤ lft m
      · have hka := sa_l n m wh (by omega) hp
        have hk1 : 1 ≤ k := by omega
        have hcb := cb_l x n m wh P (by omega) hp
        have htp := getD_last20 lP hk1
        rw [lP] at hcb htp
        generalize P.getD (k - 1) zH = tp at hcb htp
        obtain ⟨F1, m1, c1⟩ := steps_ex N A (B.take (lft m)) wh x (P.take (k - 1)) n (lft m) (k - 1) lA (by rw [List.length_take]; omega) (by rw [List.length_take]; omega) (by omega) h1 hp (by omega) (by omega) hvA (fun y hy => hvB y (List.mem_of_mem_take hy))
        rw [hcb]
        refine ⟨stL A B x wh P tp n m k F1, fun e1 e3 hne => ?_, fun a c a2 c2 a3 c3 w hA hB hP => steps_l A B n m wh x tp P k htp hk1 (by omega) F1 c1 a c a2 c2 a3 c3 w hA hB hP h1 hp (by omega) hm hvA hvB⟩
        unfold stL
        rw [e2] at e3
        rcases one_or e3 with ⟨q1, q2⟩ | q
        · rw [m1 e1 (by rw [q1, List.map_take]) (by rw [List.take_take, Nat.min_eq_left hp]; exact hne)]
          rfl
        · rw [q, Bool.or_true]
      · have hka := sa_r n m wh (by omega) e hp
        have hk1 : 1 ≤ k := by omega
        have hcb := cb_r x n m wh P (by omega) e hp
        have htp := getD_last20 lP hk1
        rw [lP] at hcb htp
        generalize P.getD (k - 1) zH = tp at hcb htp
        obtain ⟨F1, m1, c1⟩ := steps_ex N (A.drop (lft m)) (B.drop (lft m)) false x (P.take (k - 1)) (n - lft m) (m - lft m) (k - 1) (by rw [List.length_drop]; omega) (by rw [List.length_drop]; omega) (by rw [List.length_take]; omega) (by omega) (by omega) (by omega) (by omega) (by omega) (fun y hy => hvA y (List.mem_of_mem_drop hy)) (fun y hy => hvB y (List.mem_of_mem_drop hy))
        have e5 := hd_2 (A.map lf) (by rw [List.length_map]; omega)
        rw [List.length_map, lA] at e5
        have hlf : lft n = lft m := lft_uniq (j := Nat.log2 (m - 1)) rfl (by omega) (by omega)
        rw [hcb]
        refine ⟨(stR A B x P tp n m k F1) || (decide (MtP tp (A.take (lft m)) (B.take (lft m)))), fun e1 e3 hne => ?_, fun a c a2 c2 a3 c3 w hA hB hP => steps_r A B n m wh x tp P k htp hk1 (by omega) F1 c1 a c a2 c2 a3 c3 w hA hB hP (by omega) (by omega) (by omega) hm hvA hvB⟩
        unfold stR
        rw [e5] at e1
        rw [e2] at e3
        rcases one_or e1 with ⟨q1, q2⟩ | q
        · rcases one_or e3 with ⟨q3, q4⟩ | q
          · rw [hlf] at q1 q2
            by_cases ht : A.take (lft m) = B.take (lft m)
            · rw [m1 (by rw [q2, List.map_drop]) (by rw [q4, List.map_drop]) (take_ne20 lA (by omega) hne ht)]
              simp
            · rw [mt_true (h := tp) (by rw [q1, List.map_take]) (by rw [q3, List.map_take]) ht, Bool.or_true]
          · rw [q, Bool.or_true, Bool.true_or]
        · rw [q, Bool.or_true, Bool.true_or, Bool.true_or]
end Go.Proofs.Ytfafhlahbhopaaa
