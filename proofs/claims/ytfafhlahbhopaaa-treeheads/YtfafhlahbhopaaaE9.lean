import Derived.Test.YtfafhlahbhopaaaE8
set_option maxRecDepth 100000
set_option linter.unusedVariables false
set_option linter.unusedSimpArgs false
namespace Go.Proofs.Ytfafhlahbhopaaa
open Go.RowKit Go.Maps
open Classical
/-! The same, with what those tell that it waits for by others. -/
def anc (l : List Oper) : Nat → Oper → Nat → Bool
  | 0, _, _ => false
  | f + 1, o, j => hasDep o j || o.after.toList.any fun e => Region.binds .any e && match l[e.on]? with
    | none => false
    | some o2 => anc l f o2 j
def StpA (l : List Oper) (u : Nat → Nat → Bool) (n : Nat) (B : Array Value → World → Prop) (P C : Nat → Array Value → World → Prop) (E : Nat → Array Value → Nat → Prop) (al : Nat → Bool) (i : Nat) (o : Oper) : Prop :=
  ∀ T df w, T.size = n → B T w → (∀ j, anc l l.length o j = true → okU l u i j = true → P j T w) → (∀ s os, l[s]? = some os → (s = i ∨ hasDep os i = true) → C s T w) →
    ∃ c, Region.wanted o (yielded l.toArray T) = c ∧ (c = true → Does o T df w fun V w' => Upd (E i T) w w' ∧ (al i = true → ∃ a, V = .pointer (some a) ∧ w.heap.size ≤ a.block ∧ a.block < w'.heap.size) ∧ ∀ T', Nx o n T T' V → P i T' w') ∧ (c = false → al i = false) ∧ (c = false → ∀ T', Nx o n T T' undef → P i T' w)
section
variable {l : List Oper} {n : Nat} {B : Array Value → World → Prop} {P C : Nat → Array Value → World → Prop} {E : Nat → Array Value → Nat → Prop} {sl slC : Nat → List Nat} {slB : List Nat} {u : Nat → Nat → Bool} {al : Nat → Bool} {Q : Exit → Act → World → Prop} {df : List Deferred}
theorem vpA_run (hchk : chkP l n sl slC slB al = true) (stB : ∀ j, StB n B slB (E j) (fun _ => True)) (stP : AllI (fun i _ => ∀ j, j ≠ i → u i j = false → StB n (P i) (sl i) (E j) (Apt l al i j)) 0 l) (stC : AllI (fun i _ => ∀ j, j ≠ i → StB n (C i) (slC i) (E j) (fun _ => True)) 0 l)
    (H : AllI (StpA l u n B P C E al) 0 l) (fin : ∀ T w, T.size = n → B T w → (∀ i o, l[i]? = some o → (∀ k, u i k = false) → P i T w) → (∀ a b oa ob d e, l[a]? = some oa → l[b]? = some ob → al a = true → al b = true → a ≠ b → oa.dst = some d → ob.dst = some e → ptr T d ≠ ptr T e) → Q .normal ⟨T, df⟩ w) :
    ∀ (fuel : Nat) (listed : Array Bool) (T : Array Value) (w : World), listed.size = l.length → (List.range l.length).countP (fun i => !listed.getD i false) ≤ fuel → T.size = n → B T w →
      (∀ i o, l[i]? = some o → listed.getD i false = true → ((∀ k, u i k = true → listed.getD k false = false) → P i T w) ∧ ∀ j, hasDep o j = true → listed.getD j false = true) → (∀ s o, l[s]? = some o → listed.getD s false = false → C s T w) → AlI l al listed T w →
      wpAny Try.prog .any l.toArray (NoPanic Q) fuel listed ⟨T, df⟩ w := by
  have done : ∀ (listed : Array Bool) (T : Array Value) (w : World), listed.size = l.length → T.size = n → B T w → (∀ i o, l[i]? = some o → listed.getD i false = true → ((∀ k, u i k = true → listed.getD k false = false) → P i T w) ∧ ∀ j, hasDep o j = true → listed.getD j false = true) → AlI l al listed T w → Region.ready .any l.toArray listed = [] → NoPanic Q .normal ⟨T, df⟩ w := by
    intro listed T w hls hz hB hP hA hr
    have hall : ∀ i o, l[i]? = some o → listed.getD i false = true := by
      intro i o ho
      by_cases hl : listed.getD i false = true
      · exact hl
      · exfalso
        obtain ⟨i, ⟨o, ho, hl⟩, hmin⟩ := exists_min (p := fun i => ∃ o, l[i]? = some o ∧ ¬ listed.getD i false = true) ⟨o, ho, hl⟩
        have hlt := (List.getElem?_eq_some_iff.1 ho).1
        have hmem : i ∈ Region.ready .any l.toArray listed := mem_ready.2 ⟨by
          rw [getD_tf (by omega)]
          simpa using hl, o, by simpa using ho, fun e he hb => ?_⟩
        · rw [hr] at hmem; cases hmem
        · have hd : hasDep o e.on = true := hasDep_iff.2 ⟨e, he, hb, rfl⟩
          have h1 := chk_lt hchk ho hd
          have := hmin e.on h1
          by_cases hx : listed.getD e.on false = true
          · exact hx
          · exact absurd ⟨_, List.getElem?_eq_getElem (by omega), hx⟩ this
    exact NoPanic.normal (fin T w hz hB (fun i o ho hu => (hP i o ho (hall i o ho)).1 (fun k hk => by rw [hu k] at hk; cases hk)) (fun a b oa ob d e h1 h2 h3 h4 h5 h6 h7 => hA.ne a b oa ob d e h1 h2 h3 h4 h5 (hall a oa h1) (hall b ob h2) h6 h7))
  intro fuel
  induction fuel with
  | zero =>
    intro listed T w hls hc hz hB hP hC hA
    have hr : Region.ready .any l.toArray listed = [] := by
      refine List.eq_nil_iff_forall_not_mem.2 (fun i hi => ?_)
      obtain ⟨h1, o, ho, h2⟩ := mem_ready.1 hi
      have hlt : i < l.length := by simpa using (Array.getElem?_eq_some_iff.1 ho).1
      have h3 : listed.getD i false = false := by rw [← getD_tf (by omega)]; exact h1
      have := (List.countP_pos_iff (p := fun i => !listed.getD i false)).2 ⟨i, List.mem_range.2 hlt, show (!listed.getD i false) = true by rw [h3]; rfl⟩
      omega
    exact ⟨hr, done listed T w hls hz hB hP hA hr⟩
  | succ fuel ih =>
    intro listed T w hls hc hz hB hP hC hA
    refine ⟨fun hr => done listed T w hls hz hB hP hA hr, fun i hi => ?_⟩
    obtain ⟨h1, o, ho, h2⟩ := mem_ready.1 hi
    have ho' : l[i]? = some o := by simpa using ho
    have hlt : i < l.length := (List.getElem?_eq_some_iff.1 ho').1
    have h3 : listed.getD i false = false := by rw [← getD_tf (by omega)]; exact h1
    have hset : ∀ j, j ≠ i → (listed.setIfInBounds i true).getD j false = listed.getD j false := fun j hj => getD_setb (fun e => hj e.symm) false
    have hseti : (listed.setIfInBounds i true).getD i false = true := by
      rw [Array.getD_eq_getD_getElem?, Array.getElem?_setIfInBounds_self_of_lt (by omega)]
      rfl
    have hcount : (List.range l.length).countP (fun j => !(listed.setIfInBounds i true).getD j false) ≤ fuel := by
      have := countP_one (f := fun j => !listed.getD j false) (g := fun j => !(listed.setIfInBounds i true).getD j false) (i := i) (by simp only [h3]; rfl) (by simp only [hseti]; rfl) (fun j hj => by simp only [hset j hj]) List.nodup_range (List.mem_range.2 hlt)
      omega
    have hS := (H.get ho')
    rw [Nat.zero_add] at hS
    have hdep : ∀ j, hasDep o j = true → listed.getD j false = true := fun j hj => by
      obtain ⟨e, he, hb, rfl⟩ := hasDep_iff.1 hj
      exact h2 e he hb
    have hun : ∀ s os, l[s]? = some os → hasDep os i = true → listed.getD s false = false := fun s os hs hd => by
      by_cases hx : listed.getD s false = true
      · have := (hP s os hs hx).2 i hd
        rw [h3] at this
        cases this
      · simpa using hx
    have hanc : ∀ (f : Nat) (o2 : Oper) (j : Nat), (∀ j, hasDep o2 j = true → listed.getD j false = true) → anc l f o2 j = true → listed.getD j false = true := by
      intro f
      induction f with
      | zero => intro o2 j _ h; cases h
      | succ f ihf =>
        intro o2 j hd2 h
        unfold anc at h
        rcases Bool.or_eq_true _ _ ▸ h with h | h
        · exact hd2 j h
        · obtain ⟨e, he, h4⟩ := List.any_eq_true.1 h
          rw [Bool.and_eq_true] at h4
          have hl := hd2 e.on (hasDep_iff.2 ⟨e, by simpa using he, h4.1, rfl⟩)
          cases ho2 : l[e.on]? with
          | none => rw [ho2] at h4; cases h4.2
          | some o3 =>
            rw [ho2] at h4
            exact ihf o3 j (hP e.on o3 ho2 hl).2 h4.2
    have hdP : ∀ j, anc l l.length o j = true → okU l u i j = true → P j T w := fun j hj hok => by
      have hlj := hanc l.length o j hdep hj
      have hjl : j < l.length := by
        by_cases hx : j < l.length
        · exact hx
        · rw [Array.getD_eq_getD_getElem?, Array.getElem?_eq_none (by omega)] at hlj
          cases hlj
      refine (hP j (l[j]'hjl) (List.getElem?_eq_getElem _) hlj).1 (fun k hk => ?_)
      by_cases hkl : k < l.length
      · have h2 := List.all_eq_true.1 hok k (List.mem_range.2 hkl)
        rw [List.getElem?_eq_getElem hkl] at h2
        simp only [hk, Bool.not_true, Bool.false_or, Bool.or_eq_true, beq_iff_eq] at h2
        rcases h2 with rfl | hd
        · exact h3
        · exact hun k _ (List.getElem?_eq_getElem hkl) hd
      · rw [Array.getD_eq_getD_getElem?, Array.getElem?_eq_none (by omega)]
        rfl
    obtain ⟨c, hw, ht, hf0, hf⟩ := hS T df w hz hB hdP (fun s os hs hor => hC s os hs (by
      rcases hor with rfl | hd
      · exact h3
      · exact hun s os hs hd))
    have next : ∀ V w', Upd (E i T) w w' → (al i = true → ∃ a, V = .pointer (some a) ∧ w.heap.size ≤ a.block ∧ a.block < w'.heap.size) → (∀ T', Nx o n T T' V → P i T' w') → wpAny Try.prog .any l.toArray (NoPanic Q) fuel (listed.setIfInBounds i true) ((⟨T, df⟩ : Act).put o.dst V) w' := by
      intro V w' hu hal hPi
      obtain ⟨T', hT, hN⟩ := put_nx (df := df) (V := V) hz (fun d hd => (chk_dst hchk ho' hd).1)
      rw [hT]
      have keep : ∀ k, (∀ d, o.dst = some d → d ≠ k) → T'[k]? = T[k]? := fun k hk => hN.k k (by
        unfold dstIs
        cases hd : o.dst with
        | none => rfl
        | some d => simpa using hk d hd)
      have keepA : ∀ a oa d, l[a]? = some oa → al a = true → a ≠ i → oa.dst = some d → ptr T' d = ptr T d := fun a oa d ha hal2 hne hd => by
        unfold ptr
        rw [keep d (fun d2 hd2 e => by
          have := ((chk_dst hchk ho' hd2).2.2 a oa ha hne).2.2 hal2
          unfold dstIs at this
          rw [hd, e] at this
          simp at this)]
      have newA : ∀ d, al i = true → o.dst = some d → w.heap.size ≤ ptr T' d ∧ ptr T' d < w'.heap.size := fun d h1 h2 => by
        obtain ⟨a, rfl, ha, hb⟩ := hal h1
        unfold ptr
        rw [hN.s d h2]
        exact ⟨ha, hb⟩
      refine ih (listed.setIfInBounds i true) T' w' (by simp [hls]) hcount hN.z (stB i T T' w w' hB trivial hN.z (fun k hk => keep k (fun d hd e => (chk_dst hchk ho' hd).2.1 (e ▸ hk))) hu) (fun j oj hj hl => ?_) (fun s os hs hl => ?_) ⟨fun a oa d ha hal2 hl hd => ?_, fun a b oa ob d e ha hb ha2 hb2 hne hla hlb hd he => ?_⟩
      · by_cases e : j = i
        · subst e
          rw [ho'] at hj
          cases hj
          refine ⟨fun _ => hPi T' hN, fun k hk => ?_⟩
          have := chk_lt hchk ho' hk
          rw [hset k (by omega)]
          exact hdep k hk
        · rw [hset j e] at hl
          have hj2 := hP j oj hj hl
          refine ⟨fun hun2 => ?_, fun k hk => ?_⟩
          · have hst := stP.get hj
            rw [Nat.zero_add] at hst
            have huj : u j i = false := by
              cases hx : u j i with
              | false => rfl
              | true => have := hun2 i hx; rw [hseti] at this; cases this
            refine hst i (fun h => e h.symm) huj T T' w w' (hj2.1 (fun k hk => ?_)) (fun oi2 oj2 a b d f h1 h2 ha hb hab hda hdb hd hf => ?_) hN.z (fun k hk => keep k (fun d hd e2 => ?_)) hu
            · have := hun2 k hk
              by_cases e4 : k = i
              · subst e4; exact h3
              · rwa [hset k e4] at this
            · rw [hj] at h1
              cases h1
              rw [ho'] at h2
              cases h2
              cases hla : l[a]? with
              | none => rw [hla] at hd; cases hd
              | some oa =>
                cases hlb : l[b]? with
                | none => rw [hlb] at hf; cases hf
                | some ob =>
                  rw [hla] at hd
                  rw [hlb] at hf
                  refine hA.ne a b oa ob d f hla hlb ha hb hab ?_ (hdep b hdb) hd hf
                  rcases hda with rfl | hda
                  · exact hl
                  · exact hj2.2 a hda
            · have := ((chk_dst hchk ho' hd).2.2 j oj hj e).1 (e2 ▸ hk)
              have := hj2.2 i this
              rw [h3] at this
              cases this
          · by_cases e3 : k = i
            · subst e3; exact hseti
            · rw [hset k e3]; exact hj2.2 k hk
      · by_cases e : s = i
        · subst e; rw [hseti] at hl; cases hl
        · rw [hset s e] at hl
          have hst := stC.get hs
          rw [Nat.zero_add] at hst
          exact hst i (fun h => e h.symm) T T' w w' (hC s os hs hl) trivial hN.z (fun k hk => keep k (fun d hd e2 => ((chk_dst hchk ho' hd).2.2 s os hs e).2.1 (e2 ▸ hk))) hu
      · by_cases e : a = i
        · subst e
          rw [ho'] at ha
          cases ha
          exact (newA d hal2 hd).2
        · rw [hset a e] at hl
          rw [keepA a oa d ha hal2 e hd]
          exact Nat.lt_of_lt_of_le (hA.lt a oa d ha hal2 hl hd) hu.size
      · by_cases ea : a = i
        · subst ea
          rw [ho'] at ha
          cases ha
          have eb : b ≠ a := fun h => hne h.symm
          rw [hset b eb] at hlb
          rw [keepA b ob e hb hb2 eb he]
          have := hA.lt b ob e hb hb2 hlb he
          have := (newA d ha2 hd).1
          omega
        · rw [hset a ea] at hla
          rw [keepA a oa d ha ha2 ea hd]
          by_cases eb : b = i
          · subst eb
            rw [ho'] at hb
            cases hb
            have := hA.lt a oa d ha ha2 hla hd
            have := (newA e hb2 he).1
            omega
          · rw [hset b eb] at hlb
            rw [keepA b ob e hb hb2 eb he]
            exact hA.ne a b oa ob d e ha hb ha2 hb2 hne hla hlb hd he
    unfold wpOp
    rw [show l.toArray[i]? = some o from ho]
    simp only
    rw [hw]
    cases c with
    | false => exact next undef w (Upd.refl _ _) (fun h => by rw [hf0 rfl] at h; cases h) (fun T' hN => hf rfl T' hN)
    | true =>
      simp only [if_true]
      refine .inl ?_
      unfold Oper.wp
      rcases ht rfl with ⟨V, w', he, hu, ha, hp⟩ | ⟨w', he, hu, ha, hp⟩ | ⟨fid, args, R, he, hcall, hR⟩
      · rw [he, Oper.upon_value]; exact next V w' hu ha hp
      · rw [he, Oper.upon_skip]; exact next undef w' hu ha hp
      · rw [he, Oper.upon_enter]
        refine hcall.mono ?_
        intro e w' hr
        obtain ⟨V, rfl, hu, ha, hp⟩ := hR e w' hr
        exact next V w' hu ha hp
theorem vpA_start {id : Nat} {T : Array Value} {w : World} (n : Nat) (B : Array Value → World → Prop) (P C : Nat → Array Value → World → Prop) (E : Nat → Array Value → Nat → Prop) (sl slC : Nat → List Nat) (slB : List Nat) (u : Nat → Nat → Bool) (al : Nat → Bool) (hm : Try.prog.follows .mixedOrders = true) (hchk : chkP l n sl slC slB al = true) (hz : T.size = n) (hB : B T w.drew) (hC : AllI (fun i _ => C i T w.drew) 0 l)
    (stB : ∀ j, StB n B slB (E j) (fun _ => True)) (stP : AllI (fun i _ => ∀ j, j ≠ i → u i j = false → StB n (P i) (sl i) (E j) (Apt l al i j)) 0 l) (stC : AllI (fun i _ => ∀ j, j ≠ i → StB n (C i) (slC i) (E j) (fun _ => True)) 0 l)
    (H : AllI (StpA l u n B P C E al) 0 l) (fin : ∀ T w, T.size = n → B T w → (∀ i o, l[i]? = some o → (∀ k, u i k = false) → P i T w) → (∀ a b oa ob d e, l[a]? = some oa → l[b]? = some ob → al a = true → al b = true → a ≠ b → oa.dst = some d → ob.dst = some e → ptr T d ≠ ptr T e) → Q .normal ⟨T, df⟩ w) : (Code.region id l.toArray true).wp Try.prog Q ⟨T, df⟩ w := by
  refine wp_region_noPanic (wp_region_any hm ?_)
  have hno : ∀ i, ¬ (Array.replicate l.length false).getD i false = true := fun i hl => by
    rw [Array.getD_eq_getD_getElem?, Array.getElem?_replicate] at hl
    split at hl <;> simp at hl
  have := vpA_run (df := df) hchk stB stP stC H fin l.length (Array.replicate l.length false) T w.drew (by simp) (by have := List.countP_le_length (p := fun i => !(Array.replicate l.length false).getD i false) (l := List.range l.length); rw [List.length_range] at this; exact this) hz hB (fun i o ho hl => absurd hl (hno i)) (fun s o hs _ => by have := hC.get hs; rwa [Nat.zero_add] at this) ⟨fun a o d _ _ hl => absurd hl (hno a), fun a b _ _ _ _ _ _ _ _ _ hl => absurd hl (hno a)⟩
  simpa using this
end
end Go.Proofs.Ytfafhlahbhopaaa
namespace Go.Proofs.Ytfafhlahbhopaaa
open Go.RowKit Go.Maps
open Classical
set_option maxHeartbeats 2000000 in
theorem rhead_step (m : Nat) (ih : ∀ (l : List En) (a : Option Addr) (n c : Nat) (w : World), SlY yE w a n c l → n < m → n ≤ 4398046511104 → (∀ x ∈ l, x.o.v.size ≤ 140737488351232) → Calls Try.prog 12 #[.slice a n c] w fun e w' => e = .returned (hd (l.map lf)).val ∧ Below w.heap.size w w') (l : List En) (a : Option Addr) (n c : Nat) (w : World) (h : SlY yE w a n c l) (hm : n ≤ m) (hn : n ≤ 4398046511104) (hv : ∀ x ∈ l, x.o.v.size ≤ 140737488351232) :
    Calls Try.prog 12 #[.slice a n c] w fun e w' => e = .returned (hd (l.map lf)).val ∧ Below w.heap.size w w' := by
  have hln := h.len
  go_enter Try.func12, Try.ntmps12
  go_upto_region 0 with fail
  refine wp_region_lit ?_
  refine vl_gen (fun T => Rp T 27 [(0, gw true (.slice a n c))]) ((Rp.nil rfl).cons rfl) (fun Z0 q0 => ?_)
  obtain ⟨w1, hw1⟩ : ∃ y, y = w.alloc (.cells (zH.cs).toArray 24) := ⟨_, rfl⟩
  refine vw (.pointer (some ⟨w.heap.size, 0, none⟩)) w1 (want_none rfl) (ex_al rfl (by rw [hw1]; exact alH _)) rfl q0.z (by decide) (q0.k fun _ q1 => ?_);clear q0
  have Bw1 : BB w1 w.heap.size 24 (zH.cs) := by rw [hw1]; exact BB.new _ _ _
  have bw1 : Below w.heap.size w w1 := by rw [hw1]; exact (Below.refl _ _).alloc (Nat.le_refl _) _
  have zw1 : w1.heap.size = w.heap.size + 1 := by rw [hw1]; exact World.size_alloc _ _
  clear hw1
  have d2 : Below w.heap.size w w1 := bw1
  refine wpList_nil ?_
  go_upto_region 1 with fail
  refine wp_region_lit ?_
  refine q1.t (.slice a n c) (ex_move rfl (q1.e (j := 0) rfl)) fun _ q2 => ?_;clear q1
  refine q2.t (.int .i64 ((n : Nat) : Int)) (ex_lenG rfl rfl Try.underlying22 (q2.e (j := 4) rfl)) fun _ q3 => ?_;clear q2
  by_cases h0 : n = 0
  · refine q3.t (.bool true) (ex_bin (Y := .int .i64 ((0 : Nat) : Int)) rfl (q3.e (j := 5) rfl) rfl (eqT20 _ _ (by omega) _)) fun _ q4 => ?_;clear q3
    refine wpList_nil ?_
    go_upto_region 2 with fail
    refine wp_cond_true (q4.e (j := 6) rfl) ?_
    go_upto_region 2 with fail
    refine wp_region_lit ?_
    refine vcallP (want_none rfl) (ex_call rfl (by simp only [List.map_toArray, List.map_cons, List.map_nil, evc] <;> rfl) rfl) (rsum020 w1) rfl q4.z (by decide) ?_
    rintro e w3 ⟨rfl, bw3⟩
    refine ⟨_, rfl, q4.k fun _ q5 => ?_⟩;clear q4
    have zw3 := bw3.size
    have d4 : Below w.heap.size w w3 := d2.trans (bw3.mono d2.size)
    have B5 : BB w3 w.heap.size 24 (zH.cs) := (Bw1.later bw3)
    obtain ⟨w6, hw6⟩ : ∃ y, y = w3.setCells w.heap.size 0 ((sH []).cs) := ⟨_, rfl⟩
    refine vs w6 (want_none rfl) (ex_st rfl (q5.e (j := 2) rfl) (q5.e (j := 7) rfl) (by rw [hw6]; exact B5.stH rfl _)) rfl ?_
    have Bw6 : BB w6 w.heap.size 24 ((sH []).cs) := by rw [hw6]; exact B5.putH rfl _
    have uw6 : Upd (fun k => k = w.heap.size) w3 w6 := by rw [hw6]; exact upd18 _ _ _ _
    clear hw6
    have zw6 := uw6.size
    have d7 : Below w.heap.size w w6 := d4.trans (bel_ge uw6 d4.size (by omega))
    refine wpList_nil ?_
    go_wp2
    exact Bw6.res rfl (q5.a 2 rfl) Try.underlying24 rfl (by rw [Hs.len]; exact i32h) ⟨by rw [List.eq_nil_of_length_eq_zero (hln.trans h0)]; rfl, d7⟩
  · refine q3.t (.bool false) (ex_bin (Y := .int .i64 ((0 : Nat) : Int)) rfl (q3.e (j := 5) rfl) rfl (eqF20 _ _ (by omega) _)) fun _ q4 => ?_;clear q3
    refine wpList_nil ?_
    go_upto_region 3 with fail
    refine wp_cond_false (q4.e (j := 6) rfl) ?_
    go_upto_region 3 with fail
    refine wp_region_lit ?_
    refine q4.t (.slice a n c) (ex_move rfl (q4.e (j := 0) rfl)) fun _ q5 => ?_;clear q4
    refine q5.t (.int .i64 ((n : Nat) : Int)) (ex_lenG rfl rfl Try.underlying22 (q5.e (j := 8) rfl)) fun _ q6 => ?_;clear q5
    by_cases h1 : n = 1
    · refine q6.t (.bool true) (ex_bin (Y := .int .i64 ((1 : Nat) : Int)) rfl (q6.e (j := 9) rfl) rfl (eqT20 _ _ (by omega) _)) fun _ q7 => ?_;clear q6
      refine wpList_nil ?_
      go_upto_region 4 with fail
      refine wp_cond_true (q7.e (j := 10) rfl) ?_
      obtain ⟨x0, rfl⟩ : ∃ x, l = [x] := List.length_eq_one_iff.1 (by omega)
      have hx0 : ([x0] : List En)[0]? = some x0 := rfl
      obtain ⟨kq3, ko4, rfl, hkq3, lkq3⟩ := h.place (by simp)
      have ckq3 := h.cap
      go_upto_region 4 with fail
      refine wp_region_lit ?_
      refine q7.t (.slice (some ⟨kq3, ko4, none⟩) n c) (ex_move rfl (q7.e (j := 0) rfl)) fun _ q8 => ?_;clear q7
      refine q8.t (.pointer (some ⟨kq3, ko4 + 0 * 5, none⟩)) (ex_ix (Y := .int .i64 ((0 : Nat) : Int)) rfl (q8.e (j := 11) rfl) rfl (ixE20 kq3 ko4 n c 0 (by omega) _)) fun _ q9 => ?_;clear q8
      refine q9.t (x0.val20) (ex_ld rfl (q9.e (j := 12) rfl) (ldEl20 (lkq3.upd (S := fun _ => False) (Upd.of_below d2) hkq3 id) hx0)) fun _ q10 => ?_;clear q9
      refine vcallP (want_none rfl) (ex_call rfl (by simp only [List.map_toArray, List.map_cons, List.map_nil, (q10.e (j := 13) rfl), evc] <;> rfl) rfl) (rleaf20 x0 w1 (hv _ (by simp))) rfl q10.z (by decide) ?_
      rintro e w5 ⟨rfl, bw5⟩
      refine ⟨_, rfl, q10.k fun _ q11 => ?_⟩;clear q10
      have zw5 := bw5.size
      have d6 : Below w.heap.size w w5 := d2.trans (bw5.mono d2.size)
      have B7 : BB w5 w.heap.size 24 (zH.cs) := (Bw1.later bw5)
      obtain ⟨w8, hw8⟩ : ∃ y, y = w5.setCells w.heap.size 0 ((lf x0).cs) := ⟨_, rfl⟩
      refine vs w8 (want_none rfl) (ex_st rfl (q11.e (j := 2) rfl) (q11.e (j := 14) rfl) (by rw [hw8]; exact B7.stH rfl _)) rfl ?_
      have Bw8 : BB w8 w.heap.size 24 ((lf x0).cs) := by rw [hw8]; exact B7.putH rfl _
      have uw8 : Upd (fun k => k = w.heap.size) w5 w8 := by rw [hw8]; exact upd18 _ _ _ _
      clear hw8
      have zw8 := uw8.size
      have d9 : Below w.heap.size w w8 := d6.trans (bel_ge uw8 d6.size (by omega))
      refine wpList_nil ?_
      go_wp2
      exact Bw8.res rfl (q11.a 2 rfl) Try.underlying24 rfl (by rw [Hs.len]; exact i32h) ⟨rfl, d9⟩
    · refine q6.t (.bool false) (ex_bin (Y := .int .i64 ((1 : Nat) : Int)) rfl (q6.e (j := 9) rfl) rfl (eqF20 _ _ (by omega) _)) fun _ q7 => ?_;clear q6
      refine wpList_nil ?_
      go_upto_region 5 with fail
      refine wp_cond_false (q7.e (j := 10) rfl) ?_
      go_upto_region 5 with fail
      refine wp_region_lit ?_
      refine q7.t (.slice a n c) (ex_move rfl (q7.e (j := 0) rfl)) fun _ q8 => ?_;clear q7
      refine q8.t (.int .i64 ((n : Nat) : Int)) (ex_lenG rfl rfl Try.underlying22 (q8.e (j := 15) rfl)) fun _ q9 => ?_;clear q8
      refine vcallP (want_none rfl) (ex_call rfl (by simp only [List.map_toArray, List.map_cons, List.map_nil, (q9.e (j := 16) rfl), evc] <;> rfl) rfl) (rsplit20 n (by omega) (by omega) w1) rfl q9.z (by decide) ?_
      rintro e w3 ⟨rfl, hw3⟩
      refine ⟨_, rfl, q9.k fun _ q10 => ?_⟩;clear q9
      have hw3 := hw3.symm
      subst hw3
      refine q10.t (.int .i64 ((lft n : Nat) : Int)) (ex_assign rfl (q10.e (j := 17) rfl)) fun _ q11 => ?_;clear q10
      refine wpList_nil ?_
      have hb := lft_b (n := n) (by omega)
      obtain ⟨kq4, ko5, rfl, hkq4, lkq4⟩ := h.place (by rintro rfl; simp at hln; omega)
      have ckq4 := h.cap
      go_upto_region 6 with fail
      refine vp_start 27 (fun T v => Rp T 27 [(0, gw true (.slice (some ⟨kq4, ko5, none⟩) n c)), (2, gw true (.pointer (some ⟨w.heap.size, 0, none⟩))), (3, gw true (.int .i64 ((lft n : Nat) : Int))), (6, gw true (.bool false)), (10, gw true (.bool false))] ∧ Upd (fun k => k = w.heap.size) w1 v) (fun (i : Nat) (T : Array Value) (v : World) => match i with | 0 => T[18]? = some (gw true (.slice (some ⟨kq4, ko5, none⟩) n c)) | 1 => T[19]? = some (gw true (.int .i64 ((lft n : Nat) : Int))) | 2 => T[20]? = some (gw true (.slice (some ⟨kq4, ko5, none⟩) (lft n) c)) | 3 => T[21]? = some (gw true ((hd ((l.take (lft n)).map lf)).val)) | 4 => T[22]? = some (gw true (.slice (some ⟨kq4, ko5, none⟩) n c)) | 5 => T[23]? = some (gw true (.int .i64 ((lft n : Nat) : Int))) | 6 => T[24]? = some (gw true (.slice (some (if c = lft n then ⟨kq4, ko5, none⟩ else ⟨kq4, ko5 + (lft n) * 5, none⟩)) (n - (lft n)) (c - (lft n)))) | 7 => T[25]? = some (gw true ((hd ((l.drop (lft n)).map lf)).val)) | 8 => T[26]? = some (gw true ((nd (hd ((l.take (lft n)).map lf)) (hd ((l.drop (lft n)).map lf))).val)) | 9 => BB v w.heap.size 24 ((nd (hd ((l.take (lft n)).map lf)) (hd ((l.drop (lft n)).map lf))).cs) | _ => True) (fun (i : Nat) (T : Array Value) (v : World) => match i with | 9 => BB v w.heap.size 24 (zH.cs) | _ => True) (fun j T k => (j = 9 ∧ k = w.heap.size)) (fun i => match i with | 0 => [18] | 1 => [19] | 2 => [20] | 3 => [21] | 4 => [22] | 5 => [23] | 6 => [24] | 7 => [25] | 8 => [26] | 9 => [] | _ => []) (fun _ => []) [0, 2, 3, 6, 10] (fun i j => false) (fun i => false) (by kernel_rfl) (by kernel_rfl) q11.z ⟨((((((Rp.nil q11.z).cons (q11.a 10 rfl)).cons (q11.a 6 rfl)).cons (q11.a 3 rfl)).cons (q11.a 2 rfl)).cons (q11.a 0 rfl)), (Upd.refl _ _).drew20⟩ ?_ ?_ ?_ ?_ ?_ ?_
      · exact ⟨trivial, trivial, trivial, trivial, trivial, trivial, trivial, trivial, trivial, Bw1.later (Below.refl _ _).drew, trivial⟩
      · intro j T T2 v v2 h _ hz hk hu
        exact ⟨h.1.ch hz hk, h.2.tr20 hu (fun k hk he => by have he2 : (j = 9 ∧ k = w.heap.size) := he; show k = w.heap.size; omega)⟩
      · refine ⟨?_, ?_, ?_, ?_, ?_, ?_, ?_, ?_, ?_, ?_, trivial⟩
        · exact fun j hj hu T T2 v v2 h hD hz hk zU => (hk 18 (List.mem_singleton.2 rfl)).trans h
        · exact fun j hj hu T T2 v v2 h hD hz hk zU => (hk 19 (List.mem_singleton.2 rfl)).trans h
        · exact fun j hj hu T T2 v v2 h hD hz hk zU => (hk 20 (List.mem_singleton.2 rfl)).trans h
        · exact fun j hj hu T T2 v v2 h hD hz hk zU => (hk 21 (List.mem_singleton.2 rfl)).trans h
        · exact fun j hj hu T T2 v v2 h hD hz hk zU => (hk 22 (List.mem_singleton.2 rfl)).trans h
        · exact fun j hj hu T T2 v v2 h hD hz hk zU => (hk 23 (List.mem_singleton.2 rfl)).trans h
        · exact fun j hj hu T T2 v v2 h hD hz hk zU => (hk 24 (List.mem_singleton.2 rfl)).trans h
        · exact fun j hj hu T T2 v v2 h hD hz hk zU => (hk 25 (List.mem_singleton.2 rfl)).trans h
        · exact fun j hj hu T T2 v v2 h hD hz hk zU => (hk 26 (List.mem_singleton.2 rfl)).trans h
        · intro j hj hu T T2 v v2 h hD hz hk zU
          exact BB.upd h zU (fun he => by have he2 : (j = 9 ∧ w.heap.size = w.heap.size) := he; omega)
      · refine ⟨fun _ _ _ _ _ _ _ _ _ _ _ => trivial, fun _ _ _ _ _ _ _ _ _ _ _ => trivial, fun _ _ _ _ _ _ _ _ _ _ _ => trivial, fun _ _ _ _ _ _ _ _ _ _ _ => trivial, fun _ _ _ _ _ _ _ _ _ _ _ => trivial, fun _ _ _ _ _ _ _ _ _ _ _ => trivial, fun _ _ _ _ _ _ _ _ _ _ _ => trivial, fun _ _ _ _ _ _ _ _ _ _ _ => trivial, fun _ _ _ _ _ _ _ _ _ _ _ => trivial, ?_, trivial⟩
        · exact fun j hj T T2 v v2 h _ hz hk zU => BB.upd h zU (fun he => by have he2 : (j = 9 ∧ w.heap.size = w.heap.size) := he; omega)
      · refine ⟨?_, ?_, ?_, ?_, ?_, ?_, ?_, ?_, ?_, ?_, trivial⟩
        · intro T df v zz zB zp zC
          have qb := zB.1
          have zU := zB.2
          exact ⟨true, want_none rfl, fun _ => .inl ⟨_, _, ex_move rfl (qb.e (j := 0) rfl), Upd.refl _ _, fun h => absurd h (by decide), fun T2 N => N.s 18 rfl⟩, fun h => absurd h (by decide), fun h => absurd h (by decide)⟩
        · intro T df v zz zB zp zC
          have qb := zB.1
          have zU := zB.2
          exact ⟨true, want_none rfl, fun _ => .inl ⟨_, _, ex_move rfl (qb.e (j := 3) rfl), Upd.refl _ _, fun h => absurd h (by decide), fun T2 N => N.s 19 rfl⟩, fun h => absurd h (by decide), fun h => absurd h (by decide)⟩
        · intro T df v zz zB zp zC
          have qb := zB.1
          have zU := zB.2
          have p0 : T[18]? = some (gw true (.slice (some ⟨kq4, ko5, none⟩) n c)) := zp 0 (by kernel_rfl) (by kernel_rfl)
          have p1 : T[19]? = some (gw true (.int .i64 ((lft n : Nat) : Int))) := zp 1 (by kernel_rfl) (by kernel_rfl)
          exact ⟨true, want_none rfl, fun _ => .inl ⟨_, _, ex_sl19 rfl (ev p0 rfl) rfl (congrArg some (ev p1 rfl)) rfl (slToE20 kq4 ko5 n c (lft n) (by omega) (ckq4) _), Upd.refl _ _, fun h => absurd h (by decide), fun T2 N => N.s 20 rfl⟩, fun h => absurd h (by decide), fun h => absurd h (by decide)⟩
        · intro T df v zz zB zp zC
          have qb := zB.1
          have zU := zB.2
          have zDw : Below w.heap.size w v := d2.trans (zU.below d2.size (fun k hk => by have hk2 : k = w.heap.size := hk; omega))
          have p2 : T[20]? = some (gw true (.slice (some ⟨kq4, ko5, none⟩) (lft n) c)) := zp 2 (by kernel_rfl) (by kernel_rfl)
          refine ⟨true, want_none rfl, fun hc => .inr (.inr ⟨_, _, _, ex_call rfl (by simp only [List.map_toArray, List.map_cons, List.map_nil, (ev p2 rfl), evc] <;> rfl) rfl, ih (l.take (lft n)) _ _ _ v ((h.later zDw).take (lft n) (by omega)) (by omega) (by omega) (fun x hx => hv x (List.mem_of_mem_take hx)), ?_⟩), fun _ => rfl, fun h => absurd h (by decide)⟩
          rintro e w9 ⟨rfl, b9⟩
          exact ⟨_, rfl, Upd.of_below b9, fun h => absurd h (by decide), fun T2 N => N.s 21 rfl⟩
        · intro T df v zz zB zp zC
          have qb := zB.1
          have zU := zB.2
          exact ⟨true, want_none rfl, fun _ => .inl ⟨_, _, ex_move rfl (qb.e (j := 0) rfl), Upd.refl _ _, fun h => absurd h (by decide), fun T2 N => N.s 22 rfl⟩, fun h => absurd h (by decide), fun h => absurd h (by decide)⟩
        · intro T df v zz zB zp zC
          have qb := zB.1
          have zU := zB.2
          exact ⟨true, want_none rfl, fun _ => .inl ⟨_, _, ex_move rfl (qb.e (j := 3) rfl), Upd.refl _ _, fun h => absurd h (by decide), fun T2 N => N.s 23 rfl⟩, fun h => absurd h (by decide), fun h => absurd h (by decide)⟩
        · intro T df v zz zB zp zC
          have qb := zB.1
          have zU := zB.2
          have p4 : T[22]? = some (gw true (.slice (some ⟨kq4, ko5, none⟩) n c)) := zp 4 (by kernel_rfl) (by kernel_rfl)
          have p5 : T[23]? = some (gw true (.int .i64 ((lft n : Nat) : Int))) := zp 5 (by kernel_rfl) (by kernel_rfl)
          exact ⟨true, want_none rfl, fun _ => .inl ⟨_, _, ex_sl19 rfl (ev p4 rfl) (congrArg some (ev p5 rfl)) rfl rfl (slFromE20 kq4 ko5 n c (lft n) (by omega) (ckq4) _), Upd.refl _ _, fun h => absurd h (by decide), fun T2 N => N.s 24 rfl⟩, fun h => absurd h (by decide), fun h => absurd h (by decide)⟩
        · intro T df v zz zB zp zC
          have qb := zB.1
          have zU := zB.2
          have zDw : Below w.heap.size w v := d2.trans (zU.below d2.size (fun k hk => by have hk2 : k = w.heap.size := hk; omega))
          have p6 : T[24]? = some (gw true (.slice (some (if c = lft n then ⟨kq4, ko5, none⟩ else ⟨kq4, ko5 + (lft n) * 5, none⟩)) (n - (lft n)) (c - (lft n)))) := zp 6 (by kernel_rfl) (by kernel_rfl)
          refine ⟨true, want_none rfl, fun hc => .inr (.inr ⟨_, _, _, ex_call rfl (by simp only [List.map_toArray, List.map_cons, List.map_nil, (ev p6 rfl), evc] <;> rfl) rfl, ih (l.drop (lft n)) _ _ _ v ((h.later zDw).from20 (lft n) (by omega)) (by omega) (by omega) (fun x hx => hv x (List.mem_of_mem_drop hx)), ?_⟩), fun _ => rfl, fun h => absurd h (by decide)⟩
          rintro e w9 ⟨rfl, b9⟩
          exact ⟨_, rfl, Upd.of_below b9, fun h => absurd h (by decide), fun T2 N => N.s 25 rfl⟩
        · intro T df v zz zB zp zC
          have qb := zB.1
          have zU := zB.2
          have p3 : T[21]? = some (gw true ((hd ((l.take (lft n)).map lf)).val)) := zp 3 (by kernel_rfl) (by kernel_rfl)
          have p7 : T[25]? = some (gw true ((hd ((l.drop (lft n)).map lf)).val)) := zp 7 (by kernel_rfl) (by kernel_rfl)
          refine ⟨true, want_none rfl, fun hc => .inr (.inr ⟨_, _, _, ex_call rfl (by simp only [List.map_toArray, List.map_cons, List.map_nil, (ev p3 rfl), (ev p7 rfl), evc] <;> rfl) rfl, rnode20 (hd ((l.take (lft n)).map lf)) (hd ((l.drop (lft n)).map lf)) v, ?_⟩), fun _ => rfl, fun h => absurd h (by decide)⟩
          rintro e w9 ⟨rfl, b9⟩
          exact ⟨_, rfl, Upd.of_below b9, fun h => absurd h (by decide), fun T2 N => N.s 26 rfl⟩
        · intro T df v zz zB zp zC
          have qb := zB.1
          have zU := zB.2
          have p8 : T[26]? = some (gw true ((nd (hd ((l.take (lft n)).map lf)) (hd ((l.drop (lft n)).map lf))).val)) := zp 8 (by kernel_rfl) (by kernel_rfl)
          have hq : BB v w.heap.size 24 (zH.cs) := zC 9 _ rfl (.inl rfl)
          exact ⟨_, want_none rfl, fun _ => .inr (.inl ⟨_, ex_st rfl (qb.e (j := 2) rfl) (ev p8 rfl) (hq.stH rfl _), (upd18 _ _ _ _).sub20 (fun k hk => by have hk2 : k = w.heap.size := hk; show (9 = 9 ∧ k = w.heap.size); omega), fun h => absurd h (by decide), fun T2 N => hq.putH rfl _⟩), fun h => absurd h (by decide), fun h => absurd h (by decide)⟩
      intro T v6 zz zB zq za
      have qb := zB.1
      have U7 := zB.2
      clear zB zz
      clear q11
      have d8 : Below w.heap.size w v6 := d2.trans (U7.below (Nat.le_trans d2.size (Nat.le_refl _)) (fun k hk => by have hk2 : k = w.heap.size := hk; omega))
      have zv6 := U7.size
      have B9 : BB v6 w.heap.size 24 ((nd (hd ((l.take (lft n)).map lf)) (hd ((l.drop (lft n)).map lf))).cs) := zq 9 _ rfl (fun k => rfl)
      have q12 := qb
      clear zq za qb
      go_wp2
      have e9 := hd_2 (l.map lf) (by rw [List.length_map]; omega)
      rw [List.length_map, hln] at e9
      exact B9.res rfl (q12.a 2 rfl) Try.underlying24 rfl (by rw [Hs.len]; exact i32h) ⟨by rw [e9, List.map_take, List.map_drop]; rfl, d8⟩
theorem rhead20 (l : List En) (a : Option Addr) (n c : Nat) (w : World) (h : SlY yE w a n c l) (hn : n ≤ 4398046511104) (hv : ∀ x ∈ l, x.o.v.size ≤ 140737488351232) :
    Calls Try.prog 12 #[.slice a n c] w fun e w' => e = .returned (hd (l.map lf)).val ∧ Below w.heap.size w w' := by
  have H : ∀ m, ∀ (l : List En) (a : Option Addr) (n c : Nat) (w : World), SlY yE w a n c l → n < m → n ≤ 4398046511104 → (∀ x ∈ l, x.o.v.size ≤ 140737488351232) → Calls Try.prog 12 #[.slice a n c] w fun e w' => e = .returned (hd (l.map lf)).val ∧ Below w.heap.size w w' := by
    intro m
    induction m with
    | zero => intro l a n c w _ h; omega
    | succ m ih => exact fun l a n c w h hm hn hv => rhead_step m ih l a n c w h (by omega) hn hv
  exact H (n + 1) l a n c w h (by omega) hn hv
def GE20 (w : World) (b : Nat) : Prop := ∃ B v4 v5 La Lb, GM w b B (.slice none 0 0) (.slice none 0 0) v4 v5 [] [] La Lb ∧ La.map (·.D) = Lb.map (·.D)
theorem GE20.bel {w w' : World} {b : Nat} (h : GE20 w b) (hb : Below w.heap.size w w') : GE20 w' b := by
  obtain ⟨B, v4, v5, La, Lb, G, e⟩ := h
  exact ⟨B, v4, v5, La, Lb, G.bel hb, e⟩
theorem gm_BB {w : World} {b : Nat} {T : TypeId} (h : BB w b T (List.replicate 10 (.slice none 0 0 : Value))) : GM w b (b + 1) (.slice none 0 0) (.slice none 0 0) (.slice none 0 0) (.slice none 0 0) [] [] [] [] := by
  have hc : ∀ i, i < 10 → w.cell? ⟨b, i, none⟩ = some (.slice none 0 0) := fun i hi => by
    rw [h.cell, List.getElem?_replicate, if_pos hi]
  exact ⟨Nat.lt_succ_self _, h.lt, hc 2 (by omega), hc 3 (by omega), hc 4 (by omega), hc 5 (by omega), fun i => h.free i, fun i h0 _ => hc i h0, OwnY.nil _ _ _, OwnY.nil _ _ _, OwnY.nil _ _ _, OwnY.nil _ _ _, (fun k h => by cases h), (fun k h => by cases h), (fun p hp => by cases hp), (fun p hp => by cases hp), (fun p hp => by cases hp), (fun p hp => by cases hp)⟩
theorem entries20 (b : Nat) {T : TypeId} (a : Option Addr) (n c : Nat) (D : List En) (w : World) (G : BB w b T (List.replicate 10 (.slice none 0 0 : Value))) (h : SlY yE w a n c D) (hm : n * 48 ≤ 140737488351232) :
    Calls Try.prog 11 #[.pointer (some ⟨b, 0, none⟩), .slice a n c] w fun e w' => ∃ g c', e = .returned (.slice (some ⟨g, 0, none⟩) n c') ∧ SlY yE w' (some ⟨g, 0, none⟩) n c' D ∧ GE20 w' b ∧ Upd (fun k => k = b) w w' := by
  refine (given_entM b (b + 1) _ _ _ _ [] [] [] [] a n c D w (gm_BB G) h hm (by decide) rfl).mono ?_
  rintro e w' ⟨g, c', va', vb', g5, k5, rfl, hs, _, G', u, _, _⟩
  refine ⟨g, c', rfl, hs, ⟨_, _, _, _, _, G', rfl⟩, u.mono (fun k _ hk => ?_)⟩
  rcases hk with rfl | hk | hk
  · rfl
  · cases hk
  · cases hk
theorem intact20 (b : Nat) (w : World) (G : GE20 w b) : Calls Try.prog 17 #[.pointer (some ⟨b, 0, none⟩)] w fun e w' => e = .returned (.bool true) ∧ Below w.heap.size w w' := by
  obtain ⟨B, v4, v5, La, Lb, G, e⟩ := G
  refine (intactM_any b B _ _ v4 v5 [] [] La Lb w G rfl e).mono ?_
  rintro e w' ⟨rfl, n, rfl⟩
  exact ⟨rfl, belN (Below.refl _ _) n⟩
theorem alGv20 (w : World) : (Instr.alloc 35 true (.tuple #[])).run Try.prog w = .ok (.pointer (some ⟨w.heap.size, 0, none⟩)) (w.alloc (.cells (List.replicate 10 (.slice none 0 0 : Value)).toArray 35)) := by kernel_rfl
set_option maxHeartbeats 2000000 in
theorem heads20 (l : List En) (a : Option Addr) (n c : Nat) (ya zb : Hs) (x : En) (w : World) (h : SlY yE w a n c l) (hn : n ≤ 2932031007317) (hv : ∀ x ∈ l, x.o.v.size ≤ 140737488351232) (hx : x.o.v.size ≤ 140737488351232) :
    Calls Try.prog 3 #[.slice a n c, ya.val, zb.val, x.val20] w fun e w' => e = .returned (.bool true) ∧ Below w.heap.size w w' := by
  have hln := h.len
  go_enter Try.func3, Try.ntmps3
  go_upto_region 0 with fail
  refine wp_region_lit ?_
  refine vl_gen (fun T => Rp T 38 [(3, gw true (x.val20)), (2, gw true (zb.val)), (1, gw true (ya.val)), (0, gw true (.slice a n c))]) (((((Rp.nil rfl).cons rfl).cons rfl).cons rfl).cons rfl) (fun Z0 q0 => ?_)
  obtain ⟨w1, hw1⟩ : ∃ y, y = w.alloc (.cells (ya.cs).toArray 24) := ⟨_, rfl⟩
  refine vw (.pointer (some ⟨w.heap.size, 0, none⟩)) w1 (want_none rfl) (ex_box18 rfl (q0.e (j := 1) rfl) (by rw [hw1]; exact bxH20 _ _)) rfl q0.z (by decide) (q0.k fun _ q1 => ?_);clear q0
  have Bw1 : BB w1 w.heap.size 24 (ya.cs) := by rw [hw1]; exact BB.new _ _ _
  have bw1 : Below w.heap.size w w1 := by rw [hw1]; exact (Below.refl _ _).alloc (Nat.le_refl _) _
  have zw1 : w1.heap.size = w.heap.size + 1 := by rw [hw1]; exact World.size_alloc _ _
  clear hw1
  have d2 : Below w.heap.size w w1 := bw1
  obtain ⟨w3, hw3⟩ : ∃ y, y = w1.alloc (.cells (zb.cs).toArray 24) := ⟨_, rfl⟩
  refine vw (.pointer (some ⟨w1.heap.size, 0, none⟩)) w3 (want_none rfl) (ex_box18 rfl (q1.e (j := 2) rfl) (by rw [hw3]; exact bxH20 _ _)) rfl q1.z (by decide) (q1.k fun _ q2 => ?_);clear q1
  have Bw3 : BB w3 w1.heap.size 24 (zb.cs) := by rw [hw3]; exact BB.new _ _ _
  have bw3 : Below w1.heap.size w1 w3 := by rw [hw3]; exact (Below.refl _ _).alloc (Nat.le_refl _) _
  have zw3 : w3.heap.size = w1.heap.size + 1 := by rw [hw3]; exact World.size_alloc _ _
  clear hw3
  have d4 : Below w.heap.size w w3 := d2.trans (bw3.mono d2.size)
  obtain ⟨w5, hw5⟩ : ∃ y, y = w3.alloc (.cells (x.cs).toArray 28) := ⟨_, rfl⟩
  refine vw (.pointer (some ⟨w3.heap.size, 0, none⟩)) w5 (want_none rfl) (ex_box18 rfl (q2.e (j := 3) rfl) (by rw [hw5]; exact bxE20 _ _)) rfl q2.z (by decide) (q2.k fun _ q3 => ?_);clear q2
  have Bw5 : BB w5 w3.heap.size 28 (x.cs) := by rw [hw5]; exact BB.new _ _ _
  have bw5 : Below w3.heap.size w3 w5 := by rw [hw5]; exact (Below.refl _ _).alloc (Nat.le_refl _) _
  have zw5 : w5.heap.size = w3.heap.size + 1 := by rw [hw5]; exact World.size_alloc _ _
  clear hw5
  have d6 : Below w.heap.size w w5 := d4.trans (bw5.mono d4.size)
  refine q3.t (.bool false) (ex_assign rfl rfl) fun _ q4 => ?_;clear q3
  refine wpList_nil ?_
  go_upto_region 1 with fail
  refine wp_region_lit ?_
  obtain ⟨w7, hw7⟩ : ∃ y, y = w5.alloc (.cells (List.replicate 10 (.slice none 0 0 : Value)).toArray 35) := ⟨_, rfl⟩
  refine vw (.pointer (some ⟨w5.heap.size, 0, none⟩)) w7 (want_none rfl) (ex_al rfl (by rw [hw7]; exact alGv20 _)) rfl q4.z (by decide) (q4.k fun _ q5 => ?_);clear q4
  have Bw7 : BB w7 w5.heap.size 35 (List.replicate 10 (.slice none 0 0 : Value)) := by rw [hw7]; exact BB.new _ _ _
  have bw7 : Below w5.heap.size w5 w7 := by rw [hw7]; exact (Below.refl _ _).alloc (Nat.le_refl _) _
  have zw7 : w7.heap.size = w5.heap.size + 1 := by rw [hw7]; exact World.size_alloc _ _
  clear hw7
  have d8 : Below w.heap.size w w7 := d6.trans (bw7.mono d6.size)
  refine wpList_nil ?_
  go_upto_region 2 with fail
  have B9 : BB w7 w.heap.size 24 (ya.cs) := (((Bw1.later bw3).later bw5).later bw7)
  have B10 : BB w7 w1.heap.size 24 (zb.cs) := ((Bw3.later bw5).later bw7)
  have B11 : BB w7 w3.heap.size 28 (x.cs) := (Bw5.later bw7)
  refine vpA_start 38 (fun T v => Rp T 38 [(0, gw true (.slice a n c)), (5, gw true (.pointer (some ⟨w.heap.size, 0, none⟩))), (6, gw true (.pointer (some ⟨w1.heap.size, 0, none⟩))), (7, gw true (.pointer (some ⟨w3.heap.size, 0, none⟩))), (9, gw true (.pointer (some ⟨w5.heap.size, 0, none⟩)))] ∧ Upd (fun k => k = w5.heap.size) w7 v) (fun (i : Nat) (T : Array Value) (v : World) => match i with | 0 => T[10]? = some (gw true (.slice a n c)) | 1 => ∃ g1 c1, T[11]? = some (gw true (.slice (some ⟨g1, 0, none⟩) n c1)) ∧ SlY yE v (some ⟨g1, 0, none⟩) n c1 l ∧ GE20 v w5.heap.size | 2 => T[12]? = some (gw true ((hd (l.map lf)).val)) | 3 => T[13]? = some (gw true (.slice a n c)) | 4 => T[14]? = some (gw true ((hd (l.map lf)).val)) | 5 => T[15]? = some (gw true (.bool (decide ((hd (l.map lf)).v = (hd (l.map lf)).v)))) | 6 => T[16]? = some (gw true (.bool (decide ((hd (l.map lf)).v = (hd (l.map lf)).v)))) | 7 => T[17]? = some (gw (true && ((decide ((hd (l.map lf)).v = (hd (l.map lf)).v)) == true)) (ya.val)) | 8 => T[18]? = some (gw (true && ((decide ((hd (l.map lf)).v = (hd (l.map lf)).v)) == true)) (zb.val)) | 9 => T[19]? = some (gw (true && ((decide ((hd (l.map lf)).v = (hd (l.map lf)).v)) == true)) ((nd ya zb).val)) | 10 => T[20]? = some (gw (true && ((decide ((hd (l.map lf)).v = (hd (l.map lf)).v)) == true)) (ya.val)) | 11 => T[21]? = some (gw (true && ((decide ((hd (l.map lf)).v = (hd (l.map lf)).v)) == true)) (zb.val)) | 12 => T[22]? = some (gw (true && ((decide ((hd (l.map lf)).v = (hd (l.map lf)).v)) == true)) ((nd ya zb).val)) | 13 => T[23]? = some (gw (true && ((decide ((hd (l.map lf)).v = (hd (l.map lf)).v)) == true)) (.bool (decide ((nd ya zb).v = (nd ya zb).v)))) | 14 => T[24]? = some (gw true (.bool ((decide ((hd (l.map lf)).v = (hd (l.map lf)).v)) && (decide ((nd ya zb).v = (nd ya zb).v))))) | 15 => T[25]? = some (gw true (.bool ((decide ((hd (l.map lf)).v = (hd (l.map lf)).v)) && (decide ((nd ya zb).v = (nd ya zb).v))))) | 16 => T[26]? = some (gw (true && (((decide ((hd (l.map lf)).v = (hd (l.map lf)).v)) && (decide ((nd ya zb).v = (nd ya zb).v))) == true)) (x.val20)) | 17 => T[27]? = some (gw (true && (((decide ((hd (l.map lf)).v = (hd (l.map lf)).v)) && (decide ((nd ya zb).v = (nd ya zb).v))) == true)) ((lf x).val)) | 18 => T[28]? = some (gw (true && (((decide ((hd (l.map lf)).v = (hd (l.map lf)).v)) && (decide ((nd ya zb).v = (nd ya zb).v))) == true)) (x.val20)) | 19 => T[29]? = some (gw (true && (((decide ((hd (l.map lf)).v = (hd (l.map lf)).v)) && (decide ((nd ya zb).v = (nd ya zb).v))) == true)) ((lf x).val)) | 20 => T[30]? = some (gw (true && (((decide ((hd (l.map lf)).v = (hd (l.map lf)).v)) && (decide ((nd ya zb).v = (nd ya zb).v))) == true)) (.bool (decide ((lf x).v = (lf x).v)))) | 21 => T[31]? = some (gw true (.bool (((decide ((hd (l.map lf)).v = (hd (l.map lf)).v)) && (decide ((nd ya zb).v = (nd ya zb).v))) && (decide ((lf x).v = (lf x).v))))) | 22 => T[32]? = some (gw true (.bool (((decide ((hd (l.map lf)).v = (hd (l.map lf)).v)) && (decide ((nd ya zb).v = (nd ya zb).v))) && (decide ((lf x).v = (lf x).v))))) | 23 => T[33]? = some (gw (true && ((((decide ((hd (l.map lf)).v = (hd (l.map lf)).v)) && (decide ((nd ya zb).v = (nd ya zb).v))) && (decide ((lf x).v = (lf x).v))) == true)) (.bool true)) | 24 => T[34]? = some (gw true (.bool ((((decide ((hd (l.map lf)).v = (hd (l.map lf)).v)) && (decide ((nd ya zb).v = (nd ya zb).v))) && (decide ((lf x).v = (lf x).v))) && true))) | 25 => T[35]? = some (gw true (.bool ((((decide ((hd (l.map lf)).v = (hd (l.map lf)).v)) && (decide ((nd ya zb).v = (nd ya zb).v))) && (decide ((lf x).v = (lf x).v))) && true))) | 26 => T[36]? = some (gw (true && (((((decide ((hd (l.map lf)).v = (hd (l.map lf)).v)) && (decide ((nd ya zb).v = (nd ya zb).v))) && (decide ((lf x).v = (lf x).v))) && true) == true)) (.bool true)) | 27 => T[37]? = some (gw true (.bool (((((decide ((hd (l.map lf)).v = (hd (l.map lf)).v)) && (decide ((nd ya zb).v = (nd ya zb).v))) && (decide ((lf x).v = (lf x).v))) && true) && true))) | 28 => T[8]? = some (gw true (.bool (((((decide ((hd (l.map lf)).v = (hd (l.map lf)).v)) && (decide ((nd ya zb).v = (nd ya zb).v))) && (decide ((lf x).v = (lf x).v))) && true) && true))) | _ => True) (fun (i : Nat) (T : Array Value) (v : World) => match i with | 1 => BB v w5.heap.size 35 (List.replicate 10 (.slice none 0 0 : Value)) | _ => True) (fun j T k => (j = 1 ∧ k = w5.heap.size)) (fun i => match i with | 0 => [10] | 1 => [11] | 2 => [12] | 3 => [13] | 4 => [14] | 5 => [15] | 6 => [16] | 7 => [17] | 8 => [18] | 9 => [19] | 10 => [20] | 11 => [21] | 12 => [22] | 13 => [23] | 14 => [24] | 15 => [25] | 16 => [26] | 17 => [27] | 18 => [28] | 19 => [29] | 20 => [30] | 21 => [31] | 22 => [32] | 23 => [33] | 24 => [34] | 25 => [35] | 26 => [36] | 27 => [37] | 28 => [8] | _ => []) (fun _ => []) [0, 5, 6, 7, 9] (fun i j => false) (fun i => false) (by kernel_rfl) (by kernel_rfl) q5.z ⟨((((((Rp.nil q5.z).cons (q5.a 9 rfl)).cons (q5.a 7 rfl)).cons (q5.a 6 rfl)).cons (q5.a 5 rfl)).cons (q5.a 0 rfl)), (Upd.refl _ _).drew20⟩ ?_ ?_ ?_ ?_ ?_ ?_
  · exact ⟨trivial, Bw7.later (Below.refl _ _).drew, trivial, trivial, trivial, trivial, trivial, trivial, trivial, trivial, trivial, trivial, trivial, trivial, trivial, trivial, trivial, trivial, trivial, trivial, trivial, trivial, trivial, trivial, trivial, trivial, trivial, trivial, trivial, trivial⟩
  · intro j T T2 v v2 h _ hz hk hu
    exact ⟨h.1.ch hz hk, h.2.tr20 hu (fun k hk he => by have he2 : (j = 1 ∧ k = w5.heap.size) := he; show k = w5.heap.size; omega)⟩
  · refine ⟨?_, ?_, ?_, ?_, ?_, ?_, ?_, ?_, ?_, ?_, ?_, ?_, ?_, ?_, ?_, ?_, ?_, ?_, ?_, ?_, ?_, ?_, ?_, ?_, ?_, ?_, ?_, ?_, ?_, trivial⟩
    · exact fun j hj hu T T2 v v2 h hD hz hk zU => (hk 10 (List.mem_singleton.2 rfl)).trans h
    · intro j hj hu T T2 v v2 h hD hz hk zU
      have hbl : Below v.heap.size v v2 := zU.below (Nat.le_refl _) (fun k hk => absurd hk.1 hj)
      obtain ⟨g1, c1, p1, S1, G1⟩ := h
      exact ⟨g1, c1, (hk 11 (List.mem_singleton.2 rfl)).trans p1, S1.later hbl, G1.bel hbl⟩
    · exact fun j hj hu T T2 v v2 h hD hz hk zU => (hk 12 (List.mem_singleton.2 rfl)).trans h
    · exact fun j hj hu T T2 v v2 h hD hz hk zU => (hk 13 (List.mem_singleton.2 rfl)).trans h
    · exact fun j hj hu T T2 v v2 h hD hz hk zU => (hk 14 (List.mem_singleton.2 rfl)).trans h
    · exact fun j hj hu T T2 v v2 h hD hz hk zU => (hk 15 (List.mem_singleton.2 rfl)).trans h
    · exact fun j hj hu T T2 v v2 h hD hz hk zU => (hk 16 (List.mem_singleton.2 rfl)).trans h
    · exact fun j hj hu T T2 v v2 h hD hz hk zU => (hk 17 (List.mem_singleton.2 rfl)).trans h
    · exact fun j hj hu T T2 v v2 h hD hz hk zU => (hk 18 (List.mem_singleton.2 rfl)).trans h
    · exact fun j hj hu T T2 v v2 h hD hz hk zU => (hk 19 (List.mem_singleton.2 rfl)).trans h
    · exact fun j hj hu T T2 v v2 h hD hz hk zU => (hk 20 (List.mem_singleton.2 rfl)).trans h
    · exact fun j hj hu T T2 v v2 h hD hz hk zU => (hk 21 (List.mem_singleton.2 rfl)).trans h
    · exact fun j hj hu T T2 v v2 h hD hz hk zU => (hk 22 (List.mem_singleton.2 rfl)).trans h
    · exact fun j hj hu T T2 v v2 h hD hz hk zU => (hk 23 (List.mem_singleton.2 rfl)).trans h
    · exact fun j hj hu T T2 v v2 h hD hz hk zU => (hk 24 (List.mem_singleton.2 rfl)).trans h
    · exact fun j hj hu T T2 v v2 h hD hz hk zU => (hk 25 (List.mem_singleton.2 rfl)).trans h
    · exact fun j hj hu T T2 v v2 h hD hz hk zU => (hk 26 (List.mem_singleton.2 rfl)).trans h
    · exact fun j hj hu T T2 v v2 h hD hz hk zU => (hk 27 (List.mem_singleton.2 rfl)).trans h
    · exact fun j hj hu T T2 v v2 h hD hz hk zU => (hk 28 (List.mem_singleton.2 rfl)).trans h
    · exact fun j hj hu T T2 v v2 h hD hz hk zU => (hk 29 (List.mem_singleton.2 rfl)).trans h
    · exact fun j hj hu T T2 v v2 h hD hz hk zU => (hk 30 (List.mem_singleton.2 rfl)).trans h
    · exact fun j hj hu T T2 v v2 h hD hz hk zU => (hk 31 (List.mem_singleton.2 rfl)).trans h
    · exact fun j hj hu T T2 v v2 h hD hz hk zU => (hk 32 (List.mem_singleton.2 rfl)).trans h
    · exact fun j hj hu T T2 v v2 h hD hz hk zU => (hk 33 (List.mem_singleton.2 rfl)).trans h
    · exact fun j hj hu T T2 v v2 h hD hz hk zU => (hk 34 (List.mem_singleton.2 rfl)).trans h
    · exact fun j hj hu T T2 v v2 h hD hz hk zU => (hk 35 (List.mem_singleton.2 rfl)).trans h
    · exact fun j hj hu T T2 v v2 h hD hz hk zU => (hk 36 (List.mem_singleton.2 rfl)).trans h
    · exact fun j hj hu T T2 v v2 h hD hz hk zU => (hk 37 (List.mem_singleton.2 rfl)).trans h
    · exact fun j hj hu T T2 v v2 h hD hz hk zU => (hk 8 (List.mem_singleton.2 rfl)).trans h
  · refine ⟨fun _ _ _ _ _ _ _ _ _ _ _ => trivial, ?_, fun _ _ _ _ _ _ _ _ _ _ _ => trivial, fun _ _ _ _ _ _ _ _ _ _ _ => trivial, fun _ _ _ _ _ _ _ _ _ _ _ => trivial, fun _ _ _ _ _ _ _ _ _ _ _ => trivial, fun _ _ _ _ _ _ _ _ _ _ _ => trivial, fun _ _ _ _ _ _ _ _ _ _ _ => trivial, fun _ _ _ _ _ _ _ _ _ _ _ => trivial, fun _ _ _ _ _ _ _ _ _ _ _ => trivial, fun _ _ _ _ _ _ _ _ _ _ _ => trivial, fun _ _ _ _ _ _ _ _ _ _ _ => trivial, fun _ _ _ _ _ _ _ _ _ _ _ => trivial, fun _ _ _ _ _ _ _ _ _ _ _ => trivial, fun _ _ _ _ _ _ _ _ _ _ _ => trivial, fun _ _ _ _ _ _ _ _ _ _ _ => trivial, fun _ _ _ _ _ _ _ _ _ _ _ => trivial, fun _ _ _ _ _ _ _ _ _ _ _ => trivial, fun _ _ _ _ _ _ _ _ _ _ _ => trivial, fun _ _ _ _ _ _ _ _ _ _ _ => trivial, fun _ _ _ _ _ _ _ _ _ _ _ => trivial, fun _ _ _ _ _ _ _ _ _ _ _ => trivial, fun _ _ _ _ _ _ _ _ _ _ _ => trivial, fun _ _ _ _ _ _ _ _ _ _ _ => trivial, fun _ _ _ _ _ _ _ _ _ _ _ => trivial, fun _ _ _ _ _ _ _ _ _ _ _ => trivial, fun _ _ _ _ _ _ _ _ _ _ _ => trivial, fun _ _ _ _ _ _ _ _ _ _ _ => trivial, fun _ _ _ _ _ _ _ _ _ _ _ => trivial, trivial⟩
    · exact fun j hj T T2 v v2 h _ hz hk zU => BB.upd h zU (fun he => by have he2 : (j = 1 ∧ w5.heap.size = w5.heap.size) := he; omega)
  · refine ⟨?_, ?_, ?_, ?_, ?_, ?_, ?_, ?_, ?_, ?_, ?_, ?_, ?_, ?_, ?_, ?_, ?_, ?_, ?_, ?_, ?_, ?_, ?_, ?_, ?_, ?_, ?_, ?_, ?_, trivial⟩
    · intro T df v zz zB zp zC
      have qb := zB.1
      have zU := zB.2
      exact ⟨true, want_none rfl, fun _ => .inl ⟨_, _, ex_move rfl (qb.e (j := 0) rfl), Upd.refl _ _, fun h => absurd h (by decide), fun T2 N => N.s 10 rfl⟩, fun h => absurd h (by decide), fun h => absurd h (by decide)⟩
    · intro T df v zz zB zp zC
      have qb := zB.1
      have zU := zB.2
      have zDw : Below w.heap.size w v := d8.trans (zU.below d8.size (fun k hk => by have hk2 : k = w5.heap.size := hk; omega))
      have p0 : T[10]? = some (gw true (.slice a n c)) := zp 0 (by kernel_rfl) (by kernel_rfl)
      have hq : BB v w5.heap.size 35 (List.replicate 10 (.slice none 0 0 : Value)) := zC 1 _ rfl (.inl rfl)
      refine ⟨true, want_none rfl, fun hc => .inr (.inr ⟨_, _, _, ex_call rfl (by simp only [List.map_toArray, List.map_cons, List.map_nil, (qb.e (j := 9) rfl), (ev p0 rfl), evc] <;> rfl) rfl, entries20 w5.heap.size a n c l v hq (h.later zDw) (by omega), ?_⟩), fun _ => rfl, fun h => absurd h (by decide)⟩
      rintro e w9 ⟨g1, c1, rfl, S1, G1, u9⟩
      exact ⟨_, rfl, u9.sub20 (fun k hk => ⟨rfl, hk⟩), fun h => absurd h (by decide), fun T2 N => ⟨g1, c1, N.s 11 rfl, S1, G1⟩⟩
    · intro T df v zz zB zp zC
      have qb := zB.1
      have zU := zB.2
      have p1 : ∃ g1 c1, T[11]? = some (gw true (.slice (some ⟨g1, 0, none⟩) n c1)) ∧ SlY yE v (some ⟨g1, 0, none⟩) n c1 l ∧ GE20 v w5.heap.size := zp 1 (by kernel_rfl) (by kernel_rfl)
      obtain ⟨g1, c1, p1, S1, G1⟩ := p1
      refine ⟨true, want_none rfl, fun hc => .inr (.inr ⟨_, _, _, ex_call rfl (by simp only [List.map_toArray, List.map_cons, List.map_nil, (ev p1 rfl), evc] <;> rfl) rfl, head20 l _ _ _ v S1 (by omega) (fun x hx => Nat.le_trans (hv x hx) (by decide)), ?_⟩), fun _ => rfl, fun h => absurd h (by decide)⟩
      rintro e w9 ⟨rfl, b9⟩
      exact ⟨_, rfl, Upd.of_below b9, fun h => absurd h (by decide), fun T2 N => N.s 12 rfl⟩
    · intro T df v zz zB zp zC
      have qb := zB.1
      have zU := zB.2
      exact ⟨true, want_none rfl, fun _ => .inl ⟨_, _, ex_move rfl (qb.e (j := 0) rfl), Upd.refl _ _, fun h => absurd h (by decide), fun T2 N => N.s 13 rfl⟩, fun h => absurd h (by decide), fun h => absurd h (by decide)⟩
    · intro T df v zz zB zp zC
      have qb := zB.1
      have zU := zB.2
      have zDw : Below w.heap.size w v := d8.trans (zU.below d8.size (fun k hk => by have hk2 : k = w5.heap.size := hk; omega))
      have p3 : T[13]? = some (gw true (.slice a n c)) := zp 3 (by kernel_rfl) (by kernel_rfl)
      refine ⟨true, want_none rfl, fun hc => .inr (.inr ⟨_, _, _, ex_call rfl (by simp only [List.map_toArray, List.map_cons, List.map_nil, (ev p3 rfl), evc] <;> rfl) rfl, rhead20 l _ _ _ v (h.later zDw) (by omega) hv, ?_⟩), fun _ => rfl, fun h => absurd h (by decide)⟩
      rintro e w9 ⟨rfl, b9⟩
      exact ⟨_, rfl, Upd.of_below b9, fun h => absurd h (by decide), fun T2 N => N.s 14 rfl⟩
    · intro T df v zz zB zp zC
      have qb := zB.1
      have zU := zB.2
      have p2 : T[12]? = some (gw true ((hd (l.map lf)).val)) := zp 2 (by kernel_rfl) (by kernel_rfl)
      have p4 : T[14]? = some (gw true ((hd (l.map lf)).val)) := zp 4 (by kernel_rfl) (by kernel_rfl)
      exact ⟨true, want_none rfl, fun _ => .inl ⟨_, _, ex_bin rfl (ev p2 rfl) (ev p4 rfl) (eqHZ _ _ _ _ _), Upd.refl _ _, fun h => absurd h (by decide), fun T2 N => N.s 15 rfl⟩, fun h => absurd h (by decide), fun h => absurd h (by decide)⟩
    · intro T df v zz zB zp zC
      have qb := zB.1
      have zU := zB.2
      have p5 : T[15]? = some (gw true (.bool (decide ((hd (l.map lf)).v = (hd (l.map lf)).v)))) := zp 5 (by kernel_rfl) (by kernel_rfl)
      exact ⟨true, want_none rfl, fun _ => .inl ⟨_, _, ex_move rfl (ev p5 rfl), Upd.refl _ _, fun h => absurd h (by decide), fun T2 N => N.s 16 rfl⟩, fun h => absurd h (by decide), fun h => absurd h (by decide)⟩
    · intro T df v zz zB zp zC
      have qb := zB.1
      have zU := zB.2
      have p6 : T[16]? = some (gw true (.bool (decide ((hd (l.map lf)).v = (hd (l.map lf)).v)))) := zp 6 (by kernel_rfl) (by kernel_rfl)
      exact ⟨(true && ((decide ((hd (l.map lf)).v = (hd (l.map lf)).v)) == true)), want_g rfl rfl p6, fun hc => .inl ⟨_, _, ex_ld rfl (qb.e (j := 5) rfl) (B9.upd zU (show ¬ (w.heap.size = w5.heap.size) by omega)).ldH, Upd.refl _ _, fun h => absurd h (by decide), fun T2 N => by rw [hc]; exact N.s 17 rfl⟩, fun _ => rfl, fun hc T2 N => by rw [hc]; exact N.s 17 rfl⟩
    · intro T df v zz zB zp zC
      have qb := zB.1
      have zU := zB.2
      have p6 : T[16]? = some (gw true (.bool (decide ((hd (l.map lf)).v = (hd (l.map lf)).v)))) := zp 6 (by kernel_rfl) (by kernel_rfl)
      exact ⟨(true && ((decide ((hd (l.map lf)).v = (hd (l.map lf)).v)) == true)), want_g rfl rfl p6, fun hc => .inl ⟨_, _, ex_ld rfl (qb.e (j := 6) rfl) (B10.upd zU (show ¬ (w1.heap.size = w5.heap.size) by omega)).ldH, Upd.refl _ _, fun h => absurd h (by decide), fun T2 N => by rw [hc]; exact N.s 18 rfl⟩, fun _ => rfl, fun hc T2 N => by rw [hc]; exact N.s 18 rfl⟩
    · intro T df v zz zB zp zC
      have qb := zB.1
      have zU := zB.2
      have p6 : T[16]? = some (gw true (.bool (decide ((hd (l.map lf)).v = (hd (l.map lf)).v)))) := zp 6 (by kernel_rfl) (by kernel_rfl)
      have p7 : T[17]? = some (gw (true && ((decide ((hd (l.map lf)).v = (hd (l.map lf)).v)) == true)) (ya.val)) := zp 7 (by kernel_rfl) (by kernel_rfl)
      have p8 : T[18]? = some (gw (true && ((decide ((hd (l.map lf)).v = (hd (l.map lf)).v)) == true)) (zb.val)) := zp 8 (by kernel_rfl) (by kernel_rfl)
      refine ⟨(true && ((decide ((hd (l.map lf)).v = (hd (l.map lf)).v)) == true)), want_g rfl rfl p6, fun hc => .inr (.inr ⟨_, _, _, ex_call rfl (by simp only [List.map_toArray, List.map_cons, List.map_nil, (ev p7 hc), (ev p8 hc), evc] <;> rfl) rfl, node20 ya zb v, ?_⟩), fun _ => rfl, fun hc T2 N => by rw [hc]; exact N.s 19 rfl⟩
      rintro e w9 ⟨rfl, b9⟩
      exact ⟨_, rfl, Upd.of_below b9, fun h => absurd h (by decide), fun T2 N => by rw [hc]; exact N.s 19 rfl⟩
    · intro T df v zz zB zp zC
      have qb := zB.1
      have zU := zB.2
      have p6 : T[16]? = some (gw true (.bool (decide ((hd (l.map lf)).v = (hd (l.map lf)).v)))) := zp 6 (by kernel_rfl) (by kernel_rfl)
      exact ⟨(true && ((decide ((hd (l.map lf)).v = (hd (l.map lf)).v)) == true)), want_g rfl rfl p6, fun hc => .inl ⟨_, _, ex_ld rfl (qb.e (j := 5) rfl) (B9.upd zU (show ¬ (w.heap.size = w5.heap.size) by omega)).ldH, Upd.refl _ _, fun h => absurd h (by decide), fun T2 N => by rw [hc]; exact N.s 20 rfl⟩, fun _ => rfl, fun hc T2 N => by rw [hc]; exact N.s 20 rfl⟩
    · intro T df v zz zB zp zC
      have qb := zB.1
      have zU := zB.2
      have p6 : T[16]? = some (gw true (.bool (decide ((hd (l.map lf)).v = (hd (l.map lf)).v)))) := zp 6 (by kernel_rfl) (by kernel_rfl)
      exact ⟨(true && ((decide ((hd (l.map lf)).v = (hd (l.map lf)).v)) == true)), want_g rfl rfl p6, fun hc => .inl ⟨_, _, ex_ld rfl (qb.e (j := 6) rfl) (B10.upd zU (show ¬ (w1.heap.size = w5.heap.size) by omega)).ldH, Upd.refl _ _, fun h => absurd h (by decide), fun T2 N => by rw [hc]; exact N.s 21 rfl⟩, fun _ => rfl, fun hc T2 N => by rw [hc]; exact N.s 21 rfl⟩
    · intro T df v zz zB zp zC
      have qb := zB.1
      have zU := zB.2
      have p6 : T[16]? = some (gw true (.bool (decide ((hd (l.map lf)).v = (hd (l.map lf)).v)))) := zp 6 (by kernel_rfl) (by kernel_rfl)
      have p10 : T[20]? = some (gw (true && ((decide ((hd (l.map lf)).v = (hd (l.map lf)).v)) == true)) (ya.val)) := zp 10 (by kernel_rfl) (by kernel_rfl)
      have p11 : T[21]? = some (gw (true && ((decide ((hd (l.map lf)).v = (hd (l.map lf)).v)) == true)) (zb.val)) := zp 11 (by kernel_rfl) (by kernel_rfl)
      refine ⟨(true && ((decide ((hd (l.map lf)).v = (hd (l.map lf)).v)) == true)), want_g rfl rfl p6, fun hc => .inr (.inr ⟨_, _, _, ex_call rfl (by simp only [List.map_toArray, List.map_cons, List.map_nil, (ev p10 hc), (ev p11 hc), evc] <;> rfl) rfl, rnode20 ya zb v, ?_⟩), fun _ => rfl, fun hc T2 N => by rw [hc]; exact N.s 22 rfl⟩
      rintro e w9 ⟨rfl, b9⟩
      exact ⟨_, rfl, Upd.of_below b9, fun h => absurd h (by decide), fun T2 N => by rw [hc]; exact N.s 22 rfl⟩
    · intro T df v zz zB zp zC
      have qb := zB.1
      have zU := zB.2
      have p6 : T[16]? = some (gw true (.bool (decide ((hd (l.map lf)).v = (hd (l.map lf)).v)))) := zp 6 (by kernel_rfl) (by kernel_rfl)
      have p9 : T[19]? = some (gw (true && ((decide ((hd (l.map lf)).v = (hd (l.map lf)).v)) == true)) ((nd ya zb).val)) := zp 9 (by kernel_rfl) (by kernel_rfl)
      have p12 : T[22]? = some (gw (true && ((decide ((hd (l.map lf)).v = (hd (l.map lf)).v)) == true)) ((nd ya zb).val)) := zp 12 (by kernel_rfl) (by kernel_rfl)
      exact ⟨(true && ((decide ((hd (l.map lf)).v = (hd (l.map lf)).v)) == true)), want_g rfl rfl p6, fun hc => .inl ⟨_, _, ex_bin rfl (ev p9 hc) (ev p12 hc) (eqHZ _ _ _ _ _), Upd.refl _ _, fun h => absurd h (by decide), fun T2 N => by rw [hc]; exact N.s 23 rfl⟩, fun _ => rfl, fun hc T2 N => by rw [hc]; exact N.s 23 rfl⟩
    · intro T df v zz zB zp zC
      have qb := zB.1
      have zU := zB.2
      have p6 : T[16]? = some (gw true (.bool (decide ((hd (l.map lf)).v = (hd (l.map lf)).v)))) := zp 6 (by kernel_rfl) (by kernel_rfl)
      have p13 : T[23]? = some (gw (true && ((decide ((hd (l.map lf)).v = (hd (l.map lf)).v)) == true)) (.bool (decide ((nd ya zb).v = (nd ya zb).v)))) := zp 13 (by kernel_rfl) (by kernel_rfl)
      exact ⟨true, want_none rfl, fun _ => .inl ⟨_, _, ex_and (c := true) (b := (decide ((hd (l.map lf)).v = (hd (l.map lf)).v))) (z := (decide ((nd ya zb).v = (nd ya zb).v))) rfl p6 p13 rfl, Upd.refl _ _, fun h => absurd h (by decide), fun T2 N => N.s 24 rfl⟩, fun h => absurd h (by decide), fun h => absurd h (by decide)⟩
    · intro T df v zz zB zp zC
      have qb := zB.1
      have zU := zB.2
      have p14 : T[24]? = some (gw true (.bool ((decide ((hd (l.map lf)).v = (hd (l.map lf)).v)) && (decide ((nd ya zb).v = (nd ya zb).v))))) := zp 14 (by kernel_rfl) (by kernel_rfl)
      exact ⟨true, want_none rfl, fun _ => .inl ⟨_, _, ex_move rfl (ev p14 rfl), Upd.refl _ _, fun h => absurd h (by decide), fun T2 N => N.s 25 rfl⟩, fun h => absurd h (by decide), fun h => absurd h (by decide)⟩
    · intro T df v zz zB zp zC
      have qb := zB.1
      have zU := zB.2
      have p15 : T[25]? = some (gw true (.bool ((decide ((hd (l.map lf)).v = (hd (l.map lf)).v)) && (decide ((nd ya zb).v = (nd ya zb).v))))) := zp 15 (by kernel_rfl) (by kernel_rfl)
      exact ⟨(true && (((decide ((hd (l.map lf)).v = (hd (l.map lf)).v)) && (decide ((nd ya zb).v = (nd ya zb).v))) == true)), want_g rfl rfl p15, fun hc => .inl ⟨_, _, ex_ld rfl (qb.e (j := 7) rfl) (B11.upd zU (show ¬ (w3.heap.size = w5.heap.size) by omega)).ldE20, Upd.refl _ _, fun h => absurd h (by decide), fun T2 N => by rw [hc]; exact N.s 26 rfl⟩, fun _ => rfl, fun hc T2 N => by rw [hc]; exact N.s 26 rfl⟩
    · intro T df v zz zB zp zC
      have qb := zB.1
      have zU := zB.2
      have p15 : T[25]? = some (gw true (.bool ((decide ((hd (l.map lf)).v = (hd (l.map lf)).v)) && (decide ((nd ya zb).v = (nd ya zb).v))))) := zp 15 (by kernel_rfl) (by kernel_rfl)
      have p16 : T[26]? = some (gw (true && (((decide ((hd (l.map lf)).v = (hd (l.map lf)).v)) && (decide ((nd ya zb).v = (nd ya zb).v))) == true)) (x.val20)) := zp 16 (by kernel_rfl) (by kernel_rfl)
      refine ⟨(true && (((decide ((hd (l.map lf)).v = (hd (l.map lf)).v)) && (decide ((nd ya zb).v = (nd ya zb).v))) == true)), want_g rfl rfl p15, fun hc => .inr (.inr ⟨_, _, _, ex_call rfl (by simp only [List.map_toArray, List.map_cons, List.map_nil, (ev p16 hc), evc] <;> rfl) rfl, leaf20 x v (by omega), ?_⟩), fun _ => rfl, fun hc T2 N => by rw [hc]; exact N.s 27 rfl⟩
      rintro e w9 ⟨rfl, b9⟩
      exact ⟨_, rfl, Upd.of_below b9, fun h => absurd h (by decide), fun T2 N => by rw [hc]; exact N.s 27 rfl⟩
    · intro T df v zz zB zp zC
      have qb := zB.1
      have zU := zB.2
      have p15 : T[25]? = some (gw true (.bool ((decide ((hd (l.map lf)).v = (hd (l.map lf)).v)) && (decide ((nd ya zb).v = (nd ya zb).v))))) := zp 15 (by kernel_rfl) (by kernel_rfl)
      exact ⟨(true && (((decide ((hd (l.map lf)).v = (hd (l.map lf)).v)) && (decide ((nd ya zb).v = (nd ya zb).v))) == true)), want_g rfl rfl p15, fun hc => .inl ⟨_, _, ex_ld rfl (qb.e (j := 7) rfl) (B11.upd zU (show ¬ (w3.heap.size = w5.heap.size) by omega)).ldE20, Upd.refl _ _, fun h => absurd h (by decide), fun T2 N => by rw [hc]; exact N.s 28 rfl⟩, fun _ => rfl, fun hc T2 N => by rw [hc]; exact N.s 28 rfl⟩
    · intro T df v zz zB zp zC
      have qb := zB.1
      have zU := zB.2
      have p15 : T[25]? = some (gw true (.bool ((decide ((hd (l.map lf)).v = (hd (l.map lf)).v)) && (decide ((nd ya zb).v = (nd ya zb).v))))) := zp 15 (by kernel_rfl) (by kernel_rfl)
      have p18 : T[28]? = some (gw (true && (((decide ((hd (l.map lf)).v = (hd (l.map lf)).v)) && (decide ((nd ya zb).v = (nd ya zb).v))) == true)) (x.val20)) := zp 18 (by kernel_rfl) (by kernel_rfl)
      refine ⟨(true && (((decide ((hd (l.map lf)).v = (hd (l.map lf)).v)) && (decide ((nd ya zb).v = (nd ya zb).v))) == true)), want_g rfl rfl p15, fun hc => .inr (.inr ⟨_, _, _, ex_call rfl (by simp only [List.map_toArray, List.map_cons, List.map_nil, (ev p18 hc), evc] <;> rfl) rfl, rleaf20 x v (by omega), ?_⟩), fun _ => rfl, fun hc T2 N => by rw [hc]; exact N.s 29 rfl⟩
      rintro e w9 ⟨rfl, b9⟩
      exact ⟨_, rfl, Upd.of_below b9, fun h => absurd h (by decide), fun T2 N => by rw [hc]; exact N.s 29 rfl⟩
    · intro T df v zz zB zp zC
      have qb := zB.1
      have zU := zB.2
      have p15 : T[25]? = some (gw true (.bool ((decide ((hd (l.map lf)).v = (hd (l.map lf)).v)) && (decide ((nd ya zb).v = (nd ya zb).v))))) := zp 15 (by kernel_rfl) (by kernel_rfl)
      have p17 : T[27]? = some (gw (true && (((decide ((hd (l.map lf)).v = (hd (l.map lf)).v)) && (decide ((nd ya zb).v = (nd ya zb).v))) == true)) ((lf x).val)) := zp 17 (by kernel_rfl) (by kernel_rfl)
      have p19 : T[29]? = some (gw (true && (((decide ((hd (l.map lf)).v = (hd (l.map lf)).v)) && (decide ((nd ya zb).v = (nd ya zb).v))) == true)) ((lf x).val)) := zp 19 (by kernel_rfl) (by kernel_rfl)
      exact ⟨(true && (((decide ((hd (l.map lf)).v = (hd (l.map lf)).v)) && (decide ((nd ya zb).v = (nd ya zb).v))) == true)), want_g rfl rfl p15, fun hc => .inl ⟨_, _, ex_bin rfl (ev p17 hc) (ev p19 hc) (eqHZ _ _ _ _ _), Upd.refl _ _, fun h => absurd h (by decide), fun T2 N => by rw [hc]; exact N.s 30 rfl⟩, fun _ => rfl, fun hc T2 N => by rw [hc]; exact N.s 30 rfl⟩
    · intro T df v zz zB zp zC
      have qb := zB.1
      have zU := zB.2
      have p15 : T[25]? = some (gw true (.bool ((decide ((hd (l.map lf)).v = (hd (l.map lf)).v)) && (decide ((nd ya zb).v = (nd ya zb).v))))) := zp 15 (by kernel_rfl) (by kernel_rfl)
      have p20 : T[30]? = some (gw (true && (((decide ((hd (l.map lf)).v = (hd (l.map lf)).v)) && (decide ((nd ya zb).v = (nd ya zb).v))) == true)) (.bool (decide ((lf x).v = (lf x).v)))) := zp 20 (by kernel_rfl) (by kernel_rfl)
      exact ⟨true, want_none rfl, fun _ => .inl ⟨_, _, ex_and (c := true) (b := ((decide ((hd (l.map lf)).v = (hd (l.map lf)).v)) && (decide ((nd ya zb).v = (nd ya zb).v)))) (z := (decide ((lf x).v = (lf x).v))) rfl p15 p20 rfl, Upd.refl _ _, fun h => absurd h (by decide), fun T2 N => N.s 31 rfl⟩, fun h => absurd h (by decide), fun h => absurd h (by decide)⟩
    · intro T df v zz zB zp zC
      have qb := zB.1
      have zU := zB.2
      have p21 : T[31]? = some (gw true (.bool (((decide ((hd (l.map lf)).v = (hd (l.map lf)).v)) && (decide ((nd ya zb).v = (nd ya zb).v))) && (decide ((lf x).v = (lf x).v))))) := zp 21 (by kernel_rfl) (by kernel_rfl)
      exact ⟨true, want_none rfl, fun _ => .inl ⟨_, _, ex_move rfl (ev p21 rfl), Upd.refl _ _, fun h => absurd h (by decide), fun T2 N => N.s 32 rfl⟩, fun h => absurd h (by decide), fun h => absurd h (by decide)⟩
    · intro T df v zz zB zp zC
      have qb := zB.1
      have zU := zB.2
      have p1 : ∃ g1 c1, T[11]? = some (gw true (.slice (some ⟨g1, 0, none⟩) n c1)) ∧ SlY yE v (some ⟨g1, 0, none⟩) n c1 l ∧ GE20 v w5.heap.size := zp 1 (by kernel_rfl) (by kernel_rfl)
      obtain ⟨g1, c1, p1, S1, G1⟩ := p1
      have p22 : T[32]? = some (gw true (.bool (((decide ((hd (l.map lf)).v = (hd (l.map lf)).v)) && (decide ((nd ya zb).v = (nd ya zb).v))) && (decide ((lf x).v = (lf x).v))))) := zp 22 (by kernel_rfl) (by kernel_rfl)
      refine ⟨(true && ((((decide ((hd (l.map lf)).v = (hd (l.map lf)).v)) && (decide ((nd ya zb).v = (nd ya zb).v))) && (decide ((lf x).v = (lf x).v))) == true)), want_g rfl rfl p22, fun hc => .inr (.inr ⟨_, _, _, ex_call rfl (by simp only [List.map_toArray, List.map_cons, List.map_nil, (qb.e (j := 9) rfl), evc] <;> rfl) rfl, intact20 w5.heap.size v G1, ?_⟩), fun _ => rfl, fun hc T2 N => by rw [hc]; exact N.s 33 rfl⟩
      rintro e w9 ⟨rfl, b9⟩
      exact ⟨_, rfl, Upd.of_below b9, fun h => absurd h (by decide), fun T2 N => by rw [hc]; exact N.s 33 rfl⟩
    · intro T df v zz zB zp zC
      have qb := zB.1
      have zU := zB.2
      have p22 : T[32]? = some (gw true (.bool (((decide ((hd (l.map lf)).v = (hd (l.map lf)).v)) && (decide ((nd ya zb).v = (nd ya zb).v))) && (decide ((lf x).v = (lf x).v))))) := zp 22 (by kernel_rfl) (by kernel_rfl)
      have p23 : T[33]? = some (gw (true && ((((decide ((hd (l.map lf)).v = (hd (l.map lf)).v)) && (decide ((nd ya zb).v = (nd ya zb).v))) && (decide ((lf x).v = (lf x).v))) == true)) (.bool true)) := zp 23 (by kernel_rfl) (by kernel_rfl)
      exact ⟨true, want_none rfl, fun _ => .inl ⟨_, _, ex_and (c := true) (b := (((decide ((hd (l.map lf)).v = (hd (l.map lf)).v)) && (decide ((nd ya zb).v = (nd ya zb).v))) && (decide ((lf x).v = (lf x).v)))) (z := true) rfl p22 p23 rfl, Upd.refl _ _, fun h => absurd h (by decide), fun T2 N => N.s 34 rfl⟩, fun h => absurd h (by decide), fun h => absurd h (by decide)⟩
    · intro T df v zz zB zp zC
      have qb := zB.1
      have zU := zB.2
      have p24 : T[34]? = some (gw true (.bool ((((decide ((hd (l.map lf)).v = (hd (l.map lf)).v)) && (decide ((nd ya zb).v = (nd ya zb).v))) && (decide ((lf x).v = (lf x).v))) && true))) := zp 24 (by kernel_rfl) (by kernel_rfl)
      exact ⟨true, want_none rfl, fun _ => .inl ⟨_, _, ex_move rfl (ev p24 rfl), Upd.refl _ _, fun h => absurd h (by decide), fun T2 N => N.s 35 rfl⟩, fun h => absurd h (by decide), fun h => absurd h (by decide)⟩
    · intro T df v zz zB zp zC
      have qb := zB.1
      have zU := zB.2
      have p25 : T[35]? = some (gw true (.bool ((((decide ((hd (l.map lf)).v = (hd (l.map lf)).v)) && (decide ((nd ya zb).v = (nd ya zb).v))) && (decide ((lf x).v = (lf x).v))) && true))) := zp 25 (by kernel_rfl) (by kernel_rfl)
      refine ⟨(true && (((((decide ((hd (l.map lf)).v = (hd (l.map lf)).v)) && (decide ((nd ya zb).v = (nd ya zb).v))) && (decide ((lf x).v = (lf x).v))) && true) == true)), want_g rfl rfl p25, fun hc => .inr (.inr ⟨_, _, _, ex_call (args := #[]) rfl (by simp) rfl, works20 v, ?_⟩), fun _ => rfl, fun hc T2 N => by rw [hc]; exact N.s 36 rfl⟩
      rintro e w9 ⟨rfl, b9⟩
      exact ⟨_, rfl, Upd.of_below b9, fun h => absurd h (by decide), fun T2 N => by rw [hc]; exact N.s 36 rfl⟩
    · intro T df v zz zB zp zC
      have qb := zB.1
      have zU := zB.2
      have p25 : T[35]? = some (gw true (.bool ((((decide ((hd (l.map lf)).v = (hd (l.map lf)).v)) && (decide ((nd ya zb).v = (nd ya zb).v))) && (decide ((lf x).v = (lf x).v))) && true))) := zp 25 (by kernel_rfl) (by kernel_rfl)
      have p26 : T[36]? = some (gw (true && (((((decide ((hd (l.map lf)).v = (hd (l.map lf)).v)) && (decide ((nd ya zb).v = (nd ya zb).v))) && (decide ((lf x).v = (lf x).v))) && true) == true)) (.bool true)) := zp 26 (by kernel_rfl) (by kernel_rfl)
      exact ⟨true, want_none rfl, fun _ => .inl ⟨_, _, ex_and (c := true) (b := ((((decide ((hd (l.map lf)).v = (hd (l.map lf)).v)) && (decide ((nd ya zb).v = (nd ya zb).v))) && (decide ((lf x).v = (lf x).v))) && true)) (z := true) rfl p25 p26 rfl, Upd.refl _ _, fun h => absurd h (by decide), fun T2 N => N.s 37 rfl⟩, fun h => absurd h (by decide), fun h => absurd h (by decide)⟩
    · intro T df v zz zB zp zC
      have qb := zB.1
      have zU := zB.2
      have p27 : T[37]? = some (gw true (.bool (((((decide ((hd (l.map lf)).v = (hd (l.map lf)).v)) && (decide ((nd ya zb).v = (nd ya zb).v))) && (decide ((lf x).v = (lf x).v))) && true) && true))) := zp 27 (by kernel_rfl) (by kernel_rfl)
      exact ⟨true, want_none rfl, fun _ => .inl ⟨_, _, ex_assign rfl (ev p27 rfl), Upd.refl _ _, fun h => absurd h (by decide), fun T2 N => N.s 8 rfl⟩, fun h => absurd h (by decide), fun h => absurd h (by decide)⟩
  intro T v12 zz zB zq za
  have qb := zB.1
  have U13 := zB.2
  clear zB zz
  clear q5
  have d14 : Below w.heap.size w v12 := d8.trans (U13.below (Nat.le_trans d8.size (Nat.le_refl _)) (fun k hk => by have hk2 : k = w5.heap.size := hk; omega))
  have zv12 := U13.size
  have p28 : T[8]? = some (gw true (.bool (((((decide ((hd (l.map lf)).v = (hd (l.map lf)).v)) && (decide ((nd ya zb).v = (nd ya zb).v))) && (decide ((lf x).v = (lf x).v))) && true) && true))) := zq 28 _ rfl (fun k => rfl)
  have q6 := (qb.cons p28)
  clear zq za qb p28
  go_wp2
  refine bodyPost_ret (results_tmp rfl _ _ _) rfl ?_
  rw [getD_of (q6.a 8 rfl)]
  exact ⟨by simp [gw], d14⟩
end Go.Proofs.Ytfafhlahbhopaaa
namespace Go.Proofs.Ytfafhlahbhopaaa
open Go.ChangeShapes Go.WideShapes Go.ChangeAt Go.RowKit Go.Maps
open Classical
theorem heads_cameW (a : Option Addr) (n c : Nat) (y : List Int) (hy : Hb y) (z : List Int) (hz : Hb z) (x : En) (W : World) (h : CameW W a n c) (hx : x.o.v.size ≤ 140737488351232) :
    Calls Try.prog 3 #[.slice a n c, .agg (y.map bV).toArray, .agg (z.map bV).toArray, x.val20] W fun e w' => e = .returned (.bool true) ∧ Below W.heap.size W w' := by
  obtain ⟨l, s, f, hn⟩ := h
  exact heads20 l a n c hy.h20 hz.h20 x W s hn f hx
end Go.Proofs.Ytfafhlahbhopaaa
