import Derived.Test.YtfafhlahbhopaaaRows
import Derived.Deep.SlicePairs
import Derived.ChangeOld
import Derived.ProofKit
import Derived.OpenShut
import Derived.SizedLaws
import Derived.Deep.RegionLaw
import Derived.Lib.ConvBytes
import Derived.Test.YtfafhlahbhopaaaG6
set_option maxRecDepth 100000
set_option linter.unusedVariables false
set_option linter.unusedSimpArgs false
namespace Go.Proofs.Ytfafhlahbhopaaa
open Go.RowKit Go.Maps
open Classical
/-! A region that draws its order, whatever it does: each operation by itself, in whatever frame and world, from what those tell that it waits for; behind all of them what each tells holds. -/
theorem look_mem {L : List (Nat × Value)} {j : Nat} {v : Value} (h : look L j = some v) : j ∈ L.map Prod.fst := by
  induction L with
  | nil => cases h
  | cons x r ih =>
    obtain ⟨k, y⟩ := x
    unfold look at h
    cases hb : Nat.beq k j with
    | true => rw [Nat.eq_of_beq_eq_true hb]; exact List.mem_cons_self ..
    | false => rw [hb] at h; exact List.mem_cons_of_mem _ (ih h)
theorem Rp.ch {T T' : Array Value} {n : Nat} {L : List (Nat × Value)} (h : Rp T n L) (hz : T'.size = n) (hk : ∀ k ∈ L.map Prod.fst, T'[k]? = T[k]?) : Rp T' n L := ⟨hz, fun j v e => (hk j (look_mem e)).trans (h.at_ j v e)⟩
theorem Upd.tr20 {S R : Nat → Prop} {a b c : World} (h : Upd S a b) (k : Upd R b c) (hs : ∀ i, i < a.heap.size → R i → S i) : Upd S a c :=
  ⟨k.os.trans h.os, k.tape.trans h.tape, k.output.trans h.output, Nat.le_trans h.size k.size, fun i hi hn => (k.block i (Nat.lt_of_lt_of_le hi h.size) (fun hr => hn (hs i hi hr))).trans (h.block i hi hn)⟩
theorem Upd.sub20 {S R : Nat → Prop} {a b : World} (h : Upd S a b) (hs : ∀ i, S i → R i) : Upd R a b := ⟨h.os, h.tape, h.output, h.size, fun i hi hn => h.block i hi (fun hr => hn (hs i hr))⟩
theorem Upd.drew20 {S : Nat → Prop} {a w : World} (h : Upd S a w) : Upd S a w.drew := ⟨h.os, h.tape, h.output, h.size, h.block⟩
def Does (o : Oper) (T : Array Value) (df : List Deferred) (w : World) (K : Value → World → Prop) : Prop :=
  (∃ V w', (execOp (⟨T, df⟩ : Act).eval o).run Try.prog w = .ok (.value V) w' ∧ K V w') ∨
  (∃ w', (execOp (⟨T, df⟩ : Act).eval o).run Try.prog w = .ok .skip w' ∧ K undef w') ∨
  (∃ fid args R, (execOp (⟨T, df⟩ : Act).eval o).run Try.prog w = .ok (.enter fid args) w ∧ Calls Try.prog fid args w R ∧ ∀ e w', R e w' → ∃ V, e = .returned V ∧ K V w')
def hasDep (o : Oper) (j : Nat) : Bool := o.after.toList.any fun e => Region.binds .any e && e.on == j
def ptr (T : Array Value) (k : Nat) : Nat := match T[k]? with
  | some (.pointer (some a)) => a.block
  | _ => 0
def dstIs (o : Oper) (k : Nat) : Bool := match o.dst with
  | none => false
  | some d => d == k
structure Nx (o : Oper) (n : Nat) (T T' : Array Value) (V : Value) : Prop where
  z : T'.size = n
  k : ∀ k, dstIs o k = false → T'[k]? = T[k]?
  s : ∀ d, o.dst = some d → T'[d]? = some V
def okU (l : List Oper) (u : Nat → Nat → Bool) (i j : Nat) : Bool := (List.range l.length).all fun k => !u j k || (k == i) || match l[k]? with
  | none => false
  | some ok => hasDep ok i
def Stp (l : List Oper) (u : Nat → Nat → Bool) (n : Nat) (B : Array Value → World → Prop) (P C : Nat → Array Value → World → Prop) (E : Nat → Array Value → Nat → Prop) (al : Nat → Bool) (i : Nat) (o : Oper) : Prop :=
  ∀ T df w, T.size = n → B T w → (∀ j, hasDep o j = true → okU l u i j = true → P j T w) → (∀ s os, l[s]? = some os → (s = i ∨ hasDep os i = true) → C s T w) →
    ∃ c, Region.wanted o (yielded l.toArray T) = c ∧ (c = true → Does o T df w fun V w' => Upd (E i T) w w' ∧ (al i = true → ∃ a, V = .pointer (some a) ∧ w.heap.size ≤ a.block ∧ a.block < w'.heap.size) ∧ ∀ T', Nx o n T T' V → P i T' w') ∧ (c = false → al i = false) ∧ (c = false → ∀ T', Nx o n T T' undef → P i T' w)
def StB (n : Nat) (F : Array Value → World → Prop) (sl : List Nat) (E : Array Value → Nat → Prop) (D : Array Value → Prop) : Prop :=
  ∀ T T' w w', F T w → D T → T'.size = n → (∀ k ∈ sl, T'[k]? = T[k]?) → Upd (E T) w w' → F T' w'
def Apt (l : List Oper) (al : Nat → Bool) (i j : Nat) (T : Array Value) : Prop :=
  ∀ oi oj a b d e, l[i]? = some oi → l[j]? = some oj → al a = true → al b = true → a ≠ b → (a = i ∨ hasDep oi a = true) → hasDep oj b = true → (l[a]?.bind (·.dst)) = some d → (l[b]?.bind (·.dst)) = some e → ptr T d ≠ ptr T e
def AllI (f : Nat → Oper → Prop) : Nat → List Oper → Prop
  | _, [] => True
  | k, o :: r => f k o ∧ AllI f (k + 1) r
theorem AllI.get {f : Nat → Oper → Prop} : ∀ {l : List Oper} {k i : Nat} {o : Oper}, AllI f k l → l[i]? = some o → f (k + i) o
  | [], _, _, _, _, h => by simp at h
  | a :: r, k, 0, o, H, h => by simp at h; subst h; exact H.1
  | a :: r, k, i + 1, o, H, h => by
    have := AllI.get (i := i) H.2 (by simpa using h)
    rwa [show k + 1 + i = k + (i + 1) by omega] at this
def chkP (l : List Oper) (n : Nat) (sl slC : Nat → List Nat) (slB : List Nat) (al : Nat → Bool) : Bool :=
  (List.range l.length).all fun j => match l[j]? with
    | none => false
    | some o => (o.after.toList.all fun e => !Region.binds .any e || decide (e.on < j)) && match o.dst with
      | none => !al j
      | some d => decide (d < n) && !slB.contains d && (List.range l.length).all fun i => (i == j) || ((!(sl i).contains d || match l[i]? with
          | none => false
          | some oi => hasDep oi j) && !(slC i).contains d && (!al i || match l[i]? with
          | none => false
          | some oi => !dstIs oi d))
theorem countP_same {f g : Nat → Bool} : ∀ {l : List Nat}, (∀ j ∈ l, g j = f j) → l.countP g = l.countP f
  | [], _ => rfl
  | a :: r, h => by
    rw [List.countP_cons, List.countP_cons, countP_same (fun j hj => h j (List.mem_cons_of_mem _ hj)), h a (List.mem_cons_self ..)]
theorem countP_one {f g : Nat → Bool} {i : Nat} (hf : f i = true) (hg : g i = false) (hs : ∀ j, j ≠ i → g j = f j) : ∀ {l : List Nat}, l.Nodup → i ∈ l → l.countP g + 1 = l.countP f
  | [], _, h => by cases h
  | a :: r, hn, h => by
    rw [List.countP_cons, List.countP_cons]
    have hn2 := List.nodup_cons.1 hn
    by_cases e : a = i
    · subst e
      rw [countP_same (f := f) (g := g) (fun j hj => hs j (by rintro rfl; exact hn2.1 hj)), hf, hg]
      simp
    · have hi : i ∈ r := by
        rcases List.mem_cons.1 h with h | h
        · exact absurd h.symm e
        · exact h
      have := countP_one hf hg hs hn2.2 hi
      rw [hs a e]
      omega
theorem exists_min {p : Nat → Prop} {k : Nat} (h : p k) : ∃ i, p i ∧ ∀ j, j < i → ¬ p j := by
  induction k using Nat.strongRecOn with
  | _ k ih =>
    by_cases e : ∃ j, j < k ∧ p j
    · obtain ⟨j, hj, hp⟩ := e
      exact ih j hj hp
    · exact ⟨k, h, fun j hj hp => e ⟨j, hj, hp⟩⟩
section
variable {l : List Oper} {n : Nat} {B : Array Value → World → Prop} {P C : Nat → Array Value → World → Prop} {E : Nat → Array Value → Nat → Prop} {sl slC : Nat → List Nat} {slB : List Nat} {u : Nat → Nat → Bool} {al : Nat → Bool} {Q : Exit → Act → World → Prop} {df : List Deferred}
theorem hasDep_iff {o : Oper} {j : Nat} : hasDep o j = true ↔ ∃ e ∈ o.after, Region.binds .any e = true ∧ e.on = j := by
  unfold hasDep
  rw [List.any_eq_true]
  constructor
  · rintro ⟨e, he, h⟩
    simp only [Bool.and_eq_true, beq_iff_eq] at h
    exact ⟨e, by simpa using he, h.1, h.2⟩
  · rintro ⟨e, he, h1, h2⟩
    exact ⟨e, by simpa using he, by simp [h1, h2]⟩
theorem chk_lt (h : chkP l n sl slC slB al = true) {j : Nat} {o : Oper} (ho : l[j]? = some o) {i : Nat} (hd : hasDep o i = true) : i < j := by
  have hl : j < l.length := (List.getElem?_eq_some_iff.1 ho).1
  have := List.all_eq_true.1 h j (List.mem_range.2 hl)
  rw [ho] at this
  simp only [Bool.and_eq_true] at this
  obtain ⟨e, he, hb, rfl⟩ := hasDep_iff.1 hd
  have := List.all_eq_true.1 this.1 e (by simpa using he)
  simpa [hb] using this
theorem chk_dst (h : chkP l n sl slC slB al = true) {j : Nat} {o : Oper} (ho : l[j]? = some o) {d : Nat} (hd : o.dst = some d) : d < n ∧ d ∉ slB ∧ ∀ i oi, l[i]? = some oi → i ≠ j → (d ∈ sl i → hasDep oi j = true) ∧ d ∉ slC i ∧ (al i = true → dstIs oi d = false) := by
  have hl : j < l.length := (List.getElem?_eq_some_iff.1 ho).1
  have := List.all_eq_true.1 h j (List.mem_range.2 hl)
  rw [ho] at this
  simp only [Bool.and_eq_true, hd, decide_eq_true_eq, Bool.not_eq_true', List.contains_eq_mem, decide_eq_false_iff_not] at this
  refine ⟨this.2.1.1, this.2.1.2, fun i oi hi hne => ?_⟩
  have h2 := List.all_eq_true.1 this.2.2 i (List.mem_range.2 (List.getElem?_eq_some_iff.1 hi).1)
  rw [hi] at h2
  simp only [Bool.or_eq_true, Bool.and_eq_true, beq_iff_eq, Bool.not_eq_true', decide_eq_false_iff_not] at h2
  rcases h2 with h2 | h2
  · exact absurd h2 hne
  · exact ⟨fun hm => h2.1.1.resolve_left (fun hn => hn hm), h2.1.2, fun ha => h2.2.resolve_left (by rw [ha]; decide)⟩
theorem put_nx {o : Oper} {T : Array Value} {V : Value} (hz : T.size = n) (hd : ∀ d, o.dst = some d → d < n) : ∃ T', (⟨T, df⟩ : Act).put o.dst V = ⟨T', df⟩ ∧ Nx o n T T' V := by
  cases h : o.dst with
  | none => exact ⟨T, rfl, hz, fun _ _ => rfl, fun d hd => by rw [h] at hd; cases hd⟩
  | some d =>
    refine ⟨T.setIfInBounds d V, rfl, by simp [hz], fun k hk => at_set_ne _ ?_, fun d' h' => ?_⟩
    · rintro rfl
      unfold dstIs at hk
      rw [h] at hk
      simp at hk
    · rw [h] at h'
      cases h'
      have := hd d h
      exact at_set _ (by rw [hz]; exact this)
theorem getD_tf {L : Array Bool} {i : Nat} (h : i < L.size) : L.getD i true = L.getD i false := by
  rw [Array.getD_eq_getD_getElem?, Array.getD_eq_getD_getElem?, Array.getElem?_eq_getElem h]
  rfl
structure AlI (l : List Oper) (al : Nat → Bool) (listed : Array Bool) (T : Array Value) (w : World) : Prop where
  lt : ∀ a o d, l[a]? = some o → al a = true → listed.getD a false = true → o.dst = some d → ptr T d < w.heap.size
  ne : ∀ a b oa ob d e, l[a]? = some oa → l[b]? = some ob → al a = true → al b = true → a ≠ b → listed.getD a false = true → listed.getD b false = true → oa.dst = some d → ob.dst = some e → ptr T d ≠ ptr T e
theorem vp_run (hchk : chkP l n sl slC slB al = true) (stB : ∀ j, StB n B slB (E j) (fun _ => True)) (stP : AllI (fun i _ => ∀ j, j ≠ i → u i j = false → StB n (P i) (sl i) (E j) (Apt l al i j)) 0 l) (stC : AllI (fun i _ => ∀ j, j ≠ i → StB n (C i) (slC i) (E j) (fun _ => True)) 0 l)
    (H : AllI (Stp l u n B P C E al) 0 l) (fin : ∀ T w, T.size = n → B T w → (∀ i o, l[i]? = some o → (∀ k, u i k = false) → P i T w) → (∀ a b oa ob d e, l[a]? = some oa → l[b]? = some ob → al a = true → al b = true → a ≠ b → oa.dst = some d → ob.dst = some e → ptr T d ≠ ptr T e) → Q .normal ⟨T, df⟩ w) :
    ∀ (fuel : Nat) (listed : Array Bool) (T : Array Value) (w : World), listed.size = l.length → (List.range l.length).countP (fun i => !listed.getD i false) ≤ fuel → T.size = n → B T w →
      (∀ i o, l[i]? = some o → listed.getD i false = true → ((∀ k, u i k = true → listed.getD k false = false) → P i T w) ∧ ∀ j, hasDep o j = true → listed.getD j false = true) → (∀ s o, l[s]? = some o → listed.getD s false = false → C s T w) → AlI l al listed T w →
      wpAny Try.prog .any l.toArray (NoPanic Q) fuel listed ⟨T, df⟩ w := by
  have done : ∀ (listed : Array Bool) (T : Array Value) (w : World), listed.size = l.length → T.size = n → B T w → (∀ i o, l[i]? = some o → listed.getD i false = true → ((∀ k, u i k = true → listed.getD k false = false) → P i T w) ∧ ∀ j, hasDep o j = true → listed.getD j false = true) → AlI l al listed T w → Region.ready .any l.toArray listed = [] → NoPanic Q .normal ⟨T, df⟩ w := by
    intro listed T w hls hz hB hP hA hr
    have hall : ∀ i o, l[i]? = some o → listed.getD i false = true := by
      intro i o ho
      by_cases hl : listed.getD i false = true
      · exact hl
      · exfalso
        obtain ⟨i, ⟨o, ho, hl⟩, hmin⟩ := exists_min (p := fun i => ∃ o, l[i]? = some o ∧ ¬ listed.getD i false = true) ⟨o, ho, hl⟩
        have hlt := (List.getElem?_eq_some_iff.1 ho).1
        have hmem : i ∈ Region.ready .any l.toArray listed := mem_ready.2 ⟨by
          rw [getD_tf (by omega)]
          simpa using hl, o, by simpa using ho, fun e he hb => ?_⟩
        · rw [hr] at hmem; cases hmem
        · have hd : hasDep o e.on = true := hasDep_iff.2 ⟨e, he, hb, rfl⟩
          have h1 := chk_lt hchk ho hd
          have := hmin e.on h1
          by_cases hx : listed.getD e.on false = true
          · exact hx
          · exact absurd ⟨_, List.getElem?_eq_getElem (by omega), hx⟩ this
    exact NoPanic.normal (fin T w hz hB (fun i o ho hu => (hP i o ho (hall i o ho)).1 (fun k hk => by rw [hu k] at hk; cases hk)) (fun a b oa ob d e h1 h2 h3 h4 h5 h6 h7 => hA.ne a b oa ob d e h1 h2 h3 h4 h5 (hall a oa h1) (hall b ob h2) h6 h7))
  intro fuel
  induction fuel with
  | zero =>
    intro listed T w hls hc hz hB hP hC hA
    have hr : Region.ready .any l.toArray listed = [] := by
      refine List.eq_nil_iff_forall_not_mem.2 (fun i hi => ?_)
      obtain ⟨h1, o, ho, h2⟩ := mem_ready.1 hi
      have hlt : i < l.length := by simpa using (Array.getElem?_eq_some_iff.1 ho).1
      have h3 : listed.getD i false = false := by rw [← getD_tf (by omega)]; exact h1
      have := (List.countP_pos_iff (p := fun i => !listed.getD i false)).2 ⟨i, List.mem_range.2 hlt, show (!listed.getD i false) = true by rw [h3]; rfl⟩
      omega
    exact ⟨hr, done listed T w hls hz hB hP hA hr⟩
  | succ fuel ih =>
    intro listed T w hls hc hz hB hP hC hA
    refine ⟨fun hr => done listed T w hls hz hB hP hA hr, fun i hi => ?_⟩
    obtain ⟨h1, o, ho, h2⟩ := mem_ready.1 hi
    have ho' : l[i]? = some o := by simpa using ho
    have hlt : i < l.length := (List.getElem?_eq_some_iff.1 ho').1
    have h3 : listed.getD i false = false := by rw [← getD_tf (by omega)]; exact h1
    have hset : ∀ j, j ≠ i → (listed.setIfInBounds i true).getD j false = listed.getD j false := fun j hj => getD_setb (fun e => hj e.symm) false
    have hseti : (listed.setIfInBounds i true).getD i false = true := by
      rw [Array.getD_eq_getD_getElem?, Array.getElem?_setIfInBounds_self_of_lt (by omega)]
      rfl
    have hcount : (List.range l.length).countP (fun j => !(listed.setIfInBounds i true).getD j false) ≤ fuel := by
      have := countP_one (f := fun j => !listed.getD j false) (g := fun j => !(listed.setIfInBounds i true).getD j false) (i := i) (by simp only [h3]; rfl) (by simp only [hseti]; rfl) (fun j hj => by simp only [hset j hj]) List.nodup_range (List.mem_range.2 hlt)
      omega
    have hS := (H.get ho')
    rw [Nat.zero_add] at hS
    have hdep : ∀ j, hasDep o j = true → listed.getD j false = true := fun j hj => by
      obtain ⟨e, he, hb, rfl⟩ := hasDep_iff.1 hj
      exact h2 e he hb
    have hun : ∀ s os, l[s]? = some os → hasDep os i = true → listed.getD s false = false := fun s os hs hd => by
      by_cases hx : listed.getD s false = true
      · have := (hP s os hs hx).2 i hd
        rw [h3] at this
        cases this
      · simpa using hx
    have hdP : ∀ j, hasDep o j = true → okU l u i j = true → P j T w := fun j hj hok => by
      have hc := chk_lt hchk ho' hj
      refine (hP j (l[j]'(by omega)) (List.getElem?_eq_getElem _) (hdep j hj)).1 (fun k hk => ?_)
      by_cases hkl : k < l.length
      · have h2 := List.all_eq_true.1 hok k (List.mem_range.2 hkl)
        rw [List.getElem?_eq_getElem hkl] at h2
        simp only [hk, Bool.not_true, Bool.false_or, Bool.or_eq_true, beq_iff_eq] at h2
        rcases h2 with rfl | hd
        · exact h3
        · exact hun k _ (List.getElem?_eq_getElem hkl) hd
      · rw [Array.getD_eq_getD_getElem?, Array.getElem?_eq_none (by omega)]
        rfl
    obtain ⟨c, hw, ht, hf0, hf⟩ := hS T df w hz hB hdP (fun s os hs hor => hC s os hs (by
      rcases hor with rfl | hd
      · exact h3
      · exact hun s os hs hd))
    have next : ∀ V w', Upd (E i T) w w' → (al i = true → ∃ a, V = .pointer (some a) ∧ w.heap.size ≤ a.block ∧ a.block < w'.heap.size) → (∀ T', Nx o n T T' V → P i T' w') → wpAny Try.prog .any l.toArray (NoPanic Q) fuel (listed.setIfInBounds i true) ((⟨T, df⟩ : Act).put o.dst V) w' := by
      intro V w' hu hal hPi
      obtain ⟨T', hT, hN⟩ := put_nx (df := df) (V := V) hz (fun d hd => (chk_dst hchk ho' hd).1)
      rw [hT]
      have keep : ∀ k, (∀ d, o.dst = some d → d ≠ k) → T'[k]? = T[k]? := fun k hk => hN.k k (by
        unfold dstIs
        cases hd : o.dst with
        | none => rfl
        | some d => simpa using hk d hd)
      have keepA : ∀ a oa d, l[a]? = some oa → al a = true → a ≠ i → oa.dst = some d → ptr T' d = ptr T d := fun a oa d ha hal2 hne hd => by
        unfold ptr
        rw [keep d (fun d2 hd2 e => by
          have := ((chk_dst hchk ho' hd2).2.2 a oa ha hne).2.2 hal2
          unfold dstIs at this
          rw [hd, e] at this
          simp at this)]
      have newA : ∀ d, al i = true → o.dst = some d → w.heap.size ≤ ptr T' d ∧ ptr T' d < w'.heap.size := fun d h1 h2 => by
        obtain ⟨a, rfl, ha, hb⟩ := hal h1
        unfold ptr
        rw [hN.s d h2]
        exact ⟨ha, hb⟩
      refine ih (listed.setIfInBounds i true) T' w' (by simp [hls]) hcount hN.z (stB i T T' w w' hB trivial hN.z (fun k hk => keep k (fun d hd e => (chk_dst hchk ho' hd).2.1 (e ▸ hk))) hu) (fun j oj hj hl => ?_) (fun s os hs hl => ?_) ⟨fun a oa d ha hal2 hl hd => ?_, fun a b oa ob d e ha hb ha2 hb2 hne hla hlb hd he => ?_⟩
      · by_cases e : j = i
        · subst e
          rw [ho'] at hj
          cases hj
          refine ⟨fun _ => hPi T' hN, fun k hk => ?_⟩
          have := chk_lt hchk ho' hk
          rw [hset k (by omega)]
          exact hdep k hk
        · rw [hset j e] at hl
          have hj2 := hP j oj hj hl
          refine ⟨fun hun2 => ?_, fun k hk => ?_⟩
          · have hst := stP.get hj
            rw [Nat.zero_add] at hst
            have huj : u j i = false := by
              cases hx : u j i with
              | false => rfl
              | true => have := hun2 i hx; rw [hseti] at this; cases this
            refine hst i (fun h => e h.symm) huj T T' w w' (hj2.1 (fun k hk => ?_)) (fun oi2 oj2 a b d f h1 h2 ha hb hab hda hdb hd hf => ?_) hN.z (fun k hk => keep k (fun d hd e2 => ?_)) hu
            · have := hun2 k hk
              by_cases e4 : k = i
              · subst e4; exact h3
              · rwa [hset k e4] at this
            · rw [hj] at h1
              cases h1
              rw [ho'] at h2
              cases h2
              cases hla : l[a]? with
              | none => rw [hla] at hd; cases hd
              | some oa =>
                cases hlb : l[b]? with
                | none => rw [hlb] at hf; cases hf
                | some ob =>
                  rw [hla] at hd
                  rw [hlb] at hf
                  refine hA.ne a b oa ob d f hla hlb ha hb hab ?_ (hdep b hdb) hd hf
                  rcases hda with rfl | hda
                  · exact hl
                  · exact hj2.2 a hda
            · have := ((chk_dst hchk ho' hd).2.2 j oj hj e).1 (e2 ▸ hk)
              have := hj2.2 i this
              rw [h3] at this
              cases this
          · by_cases e3 : k = i
            · subst e3; exact hseti
            · rw [hset k e3]; exact hj2.2 k hk
      · by_cases e : s = i
        · subst e; rw [hseti] at hl; cases hl
        · rw [hset s e] at hl
          have hst := stC.get hs
          rw [Nat.zero_add] at hst
          exact hst i (fun h => e h.symm) T T' w w' (hC s os hs hl) trivial hN.z (fun k hk => keep k (fun d hd e2 => ((chk_dst hchk ho' hd).2.2 s os hs e).2.1 (e2 ▸ hk))) hu
      · by_cases e : a = i
        · subst e
          rw [ho'] at ha
          cases ha
          exact (newA d hal2 hd).2
        · rw [hset a e] at hl
          rw [keepA a oa d ha hal2 e hd]
          exact Nat.lt_of_lt_of_le (hA.lt a oa d ha hal2 hl hd) hu.size
      · by_cases ea : a = i
        · subst ea
          rw [ho'] at ha
          cases ha
          have eb : b ≠ a := fun h => hne h.symm
          rw [hset b eb] at hlb
          rw [keepA b ob e hb hb2 eb he]
          have := hA.lt b ob e hb hb2 hlb he
          have := (newA d ha2 hd).1
          omega
        · rw [hset a ea] at hla
          rw [keepA a oa d ha ha2 ea hd]
          by_cases eb : b = i
          · subst eb
            rw [ho'] at hb
            cases hb
            have := hA.lt a oa d ha ha2 hla hd
            have := (newA e hb2 he).1
            omega
          · rw [hset b eb] at hlb
            rw [keepA b ob e hb hb2 eb he]
            exact hA.ne a b oa ob d e ha hb ha2 hb2 hne hla hlb hd he
    unfold wpOp
    rw [show l.toArray[i]? = some o from ho]
    simp only
    rw [hw]
    cases c with
    | false => exact next undef w (Upd.refl _ _) (fun h => by rw [hf0 rfl] at h; cases h) (fun T' hN => hf rfl T' hN)
    | true =>
      simp only [if_true]
      refine .inl ?_
      unfold Oper.wp
      rcases ht rfl with ⟨V, w', he, hu, ha, hp⟩ | ⟨w', he, hu, ha, hp⟩ | ⟨fid, args, R, he, hcall, hR⟩
      · rw [he, Oper.upon_value]; exact next V w' hu ha hp
      · rw [he, Oper.upon_skip]; exact next undef w' hu ha hp
      · rw [he, Oper.upon_enter]
        refine hcall.mono ?_
        intro e w' hr
        obtain ⟨V, rfl, hu, ha, hp⟩ := hR e w' hr
        exact next V w' hu ha hp
theorem vp_start {id : Nat} {T : Array Value} {w : World} (n : Nat) (B : Array Value → World → Prop) (P C : Nat → Array Value → World → Prop) (E : Nat → Array Value → Nat → Prop) (sl slC : Nat → List Nat) (slB : List Nat) (u : Nat → Nat → Bool) (al : Nat → Bool) (hm : Try.prog.follows .mixedOrders = true) (hchk : chkP l n sl slC slB al = true) (hz : T.size = n) (hB : B T w.drew) (hC : AllI (fun i _ => C i T w.drew) 0 l)
    (stB : ∀ j, StB n B slB (E j) (fun _ => True)) (stP : AllI (fun i _ => ∀ j, j ≠ i → u i j = false → StB n (P i) (sl i) (E j) (Apt l al i j)) 0 l) (stC : AllI (fun i _ => ∀ j, j ≠ i → StB n (C i) (slC i) (E j) (fun _ => True)) 0 l)
    (H : AllI (Stp l u n B P C E al) 0 l) (fin : ∀ T w, T.size = n → B T w → (∀ i o, l[i]? = some o → (∀ k, u i k = false) → P i T w) → (∀ a b oa ob d e, l[a]? = some oa → l[b]? = some ob → al a = true → al b = true → a ≠ b → oa.dst = some d → ob.dst = some e → ptr T d ≠ ptr T e) → Q .normal ⟨T, df⟩ w) : (Code.region id l.toArray true).wp Try.prog Q ⟨T, df⟩ w := by
  refine wp_region_noPanic (wp_region_any hm ?_)
  have hno : ∀ i, ¬ (Array.replicate l.length false).getD i false = true := fun i hl => by
    rw [Array.getD_eq_getD_getElem?, Array.getElem?_replicate] at hl
    split at hl <;> simp at hl
  have := vp_run (df := df) hchk stB stP stC H fin l.length (Array.replicate l.length false) T w.drew (by simp) (by have := List.countP_le_length (p := fun i => !(Array.replicate l.length false).getD i false) (l := List.range l.length); rw [List.length_range] at this; exact this) hz hB (fun i o ho hl => absurd hl (hno i)) (fun s o hs _ => by have := hC.get hs; rwa [Nat.zero_add] at this) ⟨fun a o d _ _ hl => absurd hl (hno a), fun a b _ _ _ _ _ _ _ _ _ hl => absurd hl (hno a)⟩
  simpa using this
end
end Go.Proofs.Ytfafhlahbhopaaa
namespace Go.Proofs.Ytfafhlahbhopaaa
open Go.RowKit Go.Maps
open Classical
theorem own1B20 (w : World) (x : Int) : OwnY yB9 w.heap.size (w.alloc (.cells (([x] : List Int).map bV).toArray 5)) (.slice (some ⟨w.heap.size, 0, none⟩) 1 1) [x] :=
  World.ownsRow_lit w _ 1 (Nat.le_refl _) (by unfold maxLen; decide) rfl
set_option maxHeartbeats 2000000 in
theorem rnodeText20 (a b : Hs) (w : World) :
    Calls Try.prog 42 #[a.val, b.val] w fun e w' => ∃ v, e = .returned v ∧ OwnY yB9 w.heap.size w' v ([1] ++ a.v ++ b.v) ∧ Below w.heap.size w w' := by
  go_enter Try.func42, Try.ntmps42
  go_upto_region 0 with fail
  refine wp_region_lit ?_
  refine vl_gen (fun T => Rp T 13 [(1, gw true (b.val)), (0, gw true (a.val))]) (((Rp.nil rfl).cons rfl).cons rfl) (fun Z0 q0 => ?_)
  obtain ⟨w1, hw1⟩ : ∃ y, y = w.alloc (.cells (a.cs).toArray 24) := ⟨_, rfl⟩
  refine vw (.pointer (some ⟨w.heap.size, 0, none⟩)) w1 (want_none rfl) (ex_box18 rfl (q0.e (j := 0) rfl) (by rw [hw1]; exact bxH20 _ _)) rfl q0.z (by decide) (q0.k fun _ q1 => ?_);clear q0
  have Bw1 : BB w1 w.heap.size 24 (a.cs) := by rw [hw1]; exact BB.new _ _ _
  have bw1 : Below w.heap.size w w1 := by rw [hw1]; exact (Below.refl _ _).alloc (Nat.le_refl _) _
  have zw1 : w1.heap.size = w.heap.size + 1 := by rw [hw1]; exact World.size_alloc _ _
  clear hw1
  obtain ⟨w2, hw2⟩ : ∃ y, y = w1.alloc (.cells (b.cs).toArray 24) := ⟨_, rfl⟩
  refine vw (.pointer (some ⟨w1.heap.size, 0, none⟩)) w2 (want_none rfl) (ex_box18 rfl (q1.e (j := 1) rfl) (by rw [hw2]; exact bxH20 _ _)) rfl q1.z (by decide) (q1.k fun _ q2 => ?_);clear q1
  have Bw2 : BB w2 w1.heap.size 24 (b.cs) := by rw [hw2]; exact BB.new _ _ _
  have bw2 : Below w1.heap.size w1 w2 := by rw [hw2]; exact (Below.refl _ _).alloc (Nat.le_refl _) _
  have zw2 : w2.heap.size = w1.heap.size + 1 := by rw [hw2]; exact World.size_alloc _ _
  clear hw2
  refine q2.t (.slice none 0 0) (ex_assign rfl rfl) fun _ q3 => ?_;clear q2
  refine wpList_nil ?_
  go_upto_region 1 with fail
  refine wp_region_lit ?_
  obtain ⟨w3, hw3⟩ : ∃ y, y = w2.alloc (.cells (([1] : List Int).map bV).toArray 5) := ⟨_, rfl⟩
  refine vw (.slice (some ⟨w2.heap.size, 0, none⟩) 1 1) w3 (want_none rfl) (ex_bs18 rfl rfl (by rw [hw3]; exact bs1B 1 _)) rfl q3.z (by decide) (q3.k fun _ q4 => ?_);clear q3
  have o3b : OwnY yB9 w2.heap.size w3 (.slice (some ⟨w2.heap.size, 0, none⟩) 1 1) [1] := by rw [hw3]; exact own1B20 w2 1
  have b3 : Below w2.heap.size w2 w3 := by rw [hw3]; exact (Below.refl _ _).alloc (Nat.le_refl _) _
  have z3 := b3.size
  clear hw3
  have d3 : Below w.heap.size w w3 := (bw1.trans (bw2.mono (by omega))).trans (b3.mono (by omega))
  have A3 := (Bw1.later bw2).later b3
  have B3 := Bw2.later b3
  have lw3 : w.heap.size + 2 ≤ w3.heap.size := by omega
  refine q4.t (.slice (some ⟨w2.heap.size, 0, none⟩) 1 1) (ex_assign rfl (q4.e (j := 6) rfl)) fun _ q5 => ?_;clear q4
  refine wpList_nil ?_
  go_upto_region 2 with fail
  refine wp_region_lit ?_
  refine q5.t (.slice (some ⟨w2.heap.size, 0, none⟩) 1 1) (ex_move rfl (q5.e (j := 5) rfl)) fun _ q6 => ?_;clear q5
  refine q6.t (.slice (some ⟨w.heap.size, 0, none⟩) a.v.length a.v.length) (ex_sl18 rfl (q6.e (j := 2) rfl) (by rw [a.p]; exact slH20 _ _)) fun _ q7 => ?_;clear q6
  have sa3 := A3.sl0 (L := a.v) (by rw [a.p]; unfold maxLen; decide)
  obtain ⟨v4, w4, ha4, o4, g4, _⟩ := run_appY kB9 w3 71 (w2.heap.size) [1] (.slice (some ⟨w2.heap.size, 0, none⟩) 1 1) _ _ _ a.v sa3 o3b (by omega) (by rw [a.p]; unfold maxLen; decide) (by show (([1] : List Int).length + a.v.length) * 1 ≤ _; rw [a.p]; decide)
  have d4 : Below w2.heap.size w2 w4 := o3b.grown b3 g4 (by omega)
  have z4 := d4.size
  refine vw (v4) w4 (want_none rfl) (ex_app18 rfl (q7.e (j := 7) rfl) (q7.e (j := 8) rfl) ha4) rfl q7.z (by decide) (q7.k fun _ q8 => ?_);clear q7
  refine q8.t (v4) (ex_assign rfl (q8.e (j := 9) rfl)) fun _ q9 => ?_;clear q8
  refine wpList_nil ?_
  go_upto_region 3 with fail
  refine wp_region_lit ?_
  refine q9.t (v4) (ex_move rfl (q9.e (j := 5) rfl)) fun _ q10 => ?_;clear q9
  refine q10.t (.slice (some ⟨w1.heap.size, 0, none⟩) b.v.length b.v.length) (ex_sl18 rfl (q10.e (j := 3) rfl) (by rw [b.p]; exact slH20 _ _)) fun _ q11 => ?_;clear q10
  have sb4 := (Bw2.later d4).sl0 (L := b.v) (by rw [b.p]; unfold maxLen; decide)
  obtain ⟨v5, w5, ha5, o5, g5, _⟩ := run_appY kB9 w4 71 (w2.heap.size) ([1] ++ a.v) v4 _ _ _ b.v sb4 o4 (by omega) (by rw [List.length_append, a.p, b.p]; unfold maxLen; decide) (by show (([1] ++ a.v : List Int).length + b.v.length) * 1 ≤ _; rw [List.length_append, a.p, b.p]; decide)
  have d5 : Below w2.heap.size w2 w5 := o4.grown d4 g5 (by omega)
  refine vw (v5) w5 (want_none rfl) (ex_app18 rfl (q11.e (j := 10) rfl) (q11.e (j := 11) rfl) ha5) rfl q11.z (by decide) (q11.k fun _ q12 => ?_);clear q11
  refine q12.t (v5) (ex_assign rfl (q12.e (j := 12) rfl)) fun _ q13 => ?_;clear q12
  refine wpList_nil ?_
  go_wp2
  refine bodyPost_ret (results_tmp rfl _ _ _) rfl ?_
  rw [getD_of (q13.a 4 rfl)]
  exact ⟨_, rfl, o5.low (by omega), (bw1.trans (bw2.mono (by omega))).trans (d5.mono (by omega))⟩
theorem nd_by20 (a b : Hs) : ∀ x ∈ [1] ++ a.v ++ b.v, (0 : Int) ≤ x ∧ x < 256 := fun x hx => by
  rw [List.mem_append, List.mem_append] at hx
  rcases hx with (hx | hx) | hx
  · rw [List.mem_singleton.1 hx]; decide
  · exact a.r x hx
  · exact b.r x hx
set_option maxHeartbeats 2000000 in
theorem rnode20 (a b : Hs) (w : World) :
    Calls Try.prog 14 #[a.val, b.val] w fun e w' => e = .returned (nd a b).val ∧ Below w.heap.size w w' := by
  go_enter Try.func14, Try.ntmps14
  go_upto_region 0 with fail
  refine wp_region_lit ?_
  refine vl_gen (fun T => Rp T 9 [(1, gw true (b.val)), (0, gw true (a.val))]) (((Rp.nil rfl).cons rfl).cons rfl) (fun Z0 q0 => ?_)
  obtain ⟨w1, hw1⟩ : ∃ y, y = w.alloc (.cells (a.cs).toArray 24) := ⟨_, rfl⟩
  refine vw (.pointer (some ⟨w.heap.size, 0, none⟩)) w1 (want_none rfl) (ex_box18 rfl (q0.e (j := 0) rfl) (by rw [hw1]; exact bxH20 _ _)) rfl q0.z (by decide) (q0.k fun _ q1 => ?_);clear q0
  have Bw1 : BB w1 w.heap.size 24 (a.cs) := by rw [hw1]; exact BB.new _ _ _
  have bw1 : Below w.heap.size w w1 := by rw [hw1]; exact (Below.refl _ _).alloc (Nat.le_refl _) _
  have zw1 : w1.heap.size = w.heap.size + 1 := by rw [hw1]; exact World.size_alloc _ _
  clear hw1
  obtain ⟨w2, hw2⟩ : ∃ y, y = w1.alloc (.cells (b.cs).toArray 24) := ⟨_, rfl⟩
  refine vw (.pointer (some ⟨w1.heap.size, 0, none⟩)) w2 (want_none rfl) (ex_box18 rfl (q1.e (j := 1) rfl) (by rw [hw2]; exact bxH20 _ _)) rfl q1.z (by decide) (q1.k fun _ q2 => ?_);clear q1
  have Bw2 : BB w2 w1.heap.size 24 (b.cs) := by rw [hw2]; exact BB.new _ _ _
  have bw2 : Below w1.heap.size w1 w2 := by rw [hw2]; exact (Below.refl _ _).alloc (Nat.le_refl _) _
  have zw2 : w2.heap.size = w1.heap.size + 1 := by rw [hw2]; exact World.size_alloc _ _
  clear hw2
  obtain ⟨w3, hw3⟩ : ∃ y, y = w2.alloc (.cells (zH.cs).toArray 24) := ⟨_, rfl⟩
  refine vw (.pointer (some ⟨w2.heap.size, 0, none⟩)) w3 (want_none rfl) (ex_al rfl (by rw [hw3]; exact alH _)) rfl q2.z (by decide) (q2.k fun _ q3 => ?_);clear q2
  have Bw3 : BB w3 w2.heap.size 24 (zH.cs) := by rw [hw3]; exact BB.new _ _ _
  have bw3 : Below w2.heap.size w2 w3 := by rw [hw3]; exact (Below.refl _ _).alloc (Nat.le_refl _) _
  have zw3 : w3.heap.size = w2.heap.size + 1 := by rw [hw3]; exact World.size_alloc _ _
  clear hw3
  refine wpList_nil ?_
  go_upto_region 1 with fail
  refine wp_region_lit ?_
  refine q3.t (a.val) (ex_ld rfl (q3.e (j := 2) rfl) ((Bw1.later bw2).later bw3).ldH) fun _ q4 => ?_;clear q3
  refine q4.t (b.val) (ex_ld rfl (q4.e (j := 3) rfl) (Bw2.later bw3).ldH) fun _ q5 => ?_;clear q4
  refine vcallP (want_none rfl) (ex_call rfl (by simp only [List.map_toArray, List.map_cons, List.map_nil, (q5.e (j := 5) rfl), (q5.e (j := 6) rfl), evc] <;> rfl) rfl) (rnodeText20 a b w3) rfl q5.z (by decide) ?_
  rintro e w4 ⟨v4, rfl, o4, b4⟩
  refine ⟨_, rfl, q5.k fun _ q6 => ?_⟩;clear q5
  have z4 := b4.size
  obtain ⟨a4, c4, hv4, s4, _⟩ := o4.sl kB9
  subst hv4
  refine vcallP (want_none rfl) (ex_call rfl (by simp only [List.map_toArray, List.map_cons, List.map_nil, (q6.e (j := 7) rfl), evc] <;> rfl) rfl) (rsum19 _ _ _ w4 s4 (by rw [List.length_append, List.length_append, a.p, b.p]; decide) (nd_by20 a b)) rfl q6.z (by decide) ?_
  rintro e w5 ⟨rfl, b5⟩
  refine ⟨_, rfl, q6.k fun _ q7 => ?_⟩;clear q6
  have z5 := b5.size
  have Bh5 := (Bw3.later b4).later b5
  have e9 : Value.agg ((sumF ([1] ++ a.v ++ b.v)).map bV).toArray = (nd a b).val := rfl
  rw [e9] at q7
  obtain ⟨w6, hw6⟩ : ∃ y, y = w5.setCells w2.heap.size 0 (nd a b).cs := ⟨_, rfl⟩
  refine vs w6 (want_none rfl) (ex_st rfl (q7.e (j := 4) rfl) (q7.e (j := 8) rfl) (by rw [hw6]; exact Bh5.stH rfl _)) rfl ?_
  have Bw6 : BB w6 w2.heap.size 24 (nd a b).cs := by rw [hw6]; exact Bh5.putH rfl _
  have uw6 : Upd (fun k => k = w2.heap.size) w5 w6 := by rw [hw6]; exact upd18 _ _ _ _
  clear hw6
  refine wpList_nil ?_
  go_wp2
  exact Bw6.res rfl (q7.a 4 rfl) Try.underlying24 rfl (by rw [Hs.len]; exact i32h) ⟨rfl, ((((bw1.trans (bw2.mono (by omega))).trans (bw3.mono (by omega))).trans (b4.mono (by omega))).trans (b5.mono (by omega))).trans (bel_ge uw6 (by omega) (by omega))⟩
end Go.Proofs.Ytfafhlahbhopaaa
namespace Go.Proofs.Ytfafhlahbhopaaa
open Go.RowKit Go.Maps
open Classical
end Go.Proofs.Ytfafhlahbhopaaa
namespace Go.Proofs.Ytfafhlahbhopaaa
open Go.RowKit Go.Maps
open Classical
end Go.Proofs.Ytfafhlahbhopaaa
namespace Go.Proofs.Ytfafhlahbhopaaa
open Go.ChangeShapes Go.WideShapes Go.ChangeAt Go.RowKit Go.Maps
open Classical
theorem u8_wf20 {n : Int} (h : (Lit.int .u8 n).wf = true) : 0 ≤ n ∧ n < 256 := by
  simp [Lit.wf, IntKind.min, IntKind.max, IntKind.signed, IntKind.bits] at h
  omega
theorem open_rowsH20 {α : Type} {Y : Lay α} (K : Y.Ok) [Inhabited α] (fits : α → Prop) {H : Type} {enc : TypeId × Value → H} {W : World} {base : Nat} {v : Value} {d : DataW H} {p : List MemPlace} (hT : Try.prog.cellsOf Y.T = Y.k)
    (el : ∀ {n : Nat} {cs : List Value} {x : DataW H × List MemPlace}, DataW.trod enc Try.prog W 0 (fun _ => true) true n Y.T cs = some x → ∃ q : α, fits q ∧ cs = Y.cs q)
    (hv : Value.okWide Try.prog W .any base Y.ST v) (h : DataW.Trod enc Try.prog W 0 (fun _ => true) true Y.ST v d p) :
    ∃ a len cap, v = .slice a len cap ∧ ∃ P : List α, SlY Y W a len cap P ∧ (∀ q ∈ P, fits q) ∧ (∃ el sp : List (DataW H), el.length = len ∧ el.length ≤ el.length + sp.length ∧ (len = 0 ∨ d = .slice el sp)) := by
  obtain ⟨a, n, c, rfl⟩ := okWide_slice K.und hv
  refine ⟨a, n, c, rfl, ?_⟩
  obtain ⟨fuel, h⟩ := h
  simp only [Value.cells] at h
  rcases Go.Deep.open_slice K.und h with ⟨hcs, hx⟩ | ⟨y, ln, cp, m, k, D, Pl, hcs, hb, hl, hm, hmm, hx, hall⟩
  · have e := (List.cons_eq_cons.1 hcs).1
    cases e
    exact ⟨[], ⟨rfl, Nat.le_refl _, by unfold maxLen; omega, fun _ => ⟨rfl, rfl⟩, fun x hx => .inl rfl⟩, by simp, [], [], rfl, Nat.le_refl _, .inl rfl⟩
  · have e := (List.cons_eq_cons.1 hcs).1
    cases e
    have hlm : n ≤ m := by rw [hmm]; split <;> omega
    have each : ∀ i, i < n → ∃ q : α, fits q ∧ (∀ j, j < Y.k → W.cell? ((y.add (i * Y.k)).add j) = (Y.cs q)[j]?) := by
      intro i hi
      obtain ⟨cs', h1, h2⟩ := hall i (by omega)
      rw [hT] at h1
      obtain ⟨q, hf, rfl⟩ := el h2
      obtain ⟨_, _, hcell⟩ := World.cells?_some h1
      exact ⟨q, hf, hcell⟩
    obtain ⟨q, hq⟩ := Go.Deep.choose_lt each
    have hd := congrArg Prod.fst hx
    refine ⟨(List.range n).map q, ⟨by simp, hl, hm, (fun e => by cases e), fun x hx => ?_⟩, ?_, ?_⟩
    · cases hx
      by_cases hn0 : n = 0
      · subst hn0
        exact .inl rfl
      · obtain ⟨b, o, s⟩ := y
        have z0 := (hq 0 (by omega)).2 0 K.kp
        have z1 := z0.trans (List.getElem?_eq_getElem (by rw [K.len]; exact K.kp))
        have hs := World.cell?_spot z1
        obtain rfl : s = none := by
          rw [Nat.zero_mul] at hs
          simpa [Addr.add] using hs
        refine .inr ⟨b, o, rfl, ?_, fun i x hx j u hu => ?_⟩
        · rw [Addr.add_lit, Addr.add_lit] at z1
          exact World.block_lt_of_cell? _ _ z1
        · have hi : i < n := by
            have := (List.getElem?_eq_some_iff.1 hx).1
            simpa using this
          have e : q i = x := by
            simp [hi] at hx
            exact hx
          subst e
          have hj : j < Y.k := by have := (List.getElem?_eq_some_iff.1 hu).1; rwa [K.len] at this
          have := (hq i hi).2 j hj
          rw [Addr.add_lit, Addr.add_lit] at this
          exact this.trans hu
    · intro z hz
      obtain ⟨i, hi, rfl⟩ := List.mem_map.1 hz
      exact (hq i (List.mem_range.1 hi)).1
    · dsimp only at hd
      exact ⟨_, _, by simp, Nat.le_add_right _ _, .inr hd⟩
theorem open_hashc20 {H : Type} {enc : TypeId × Value → H} {W : World} {base : Nat} {sp : Nat → Bool} {held : Bool} {n : Nat} {cl : List Value} {x : DataW H × List MemPlace} (hf : DataW.trod enc Try.prog W base sp held n 24 cl = some x) :
    ∃ o : Hs, True ∧ cl = o.cs := by
  obtain ⟨xs, m, _, _, hl, hx, he⟩ := DataW.trod_array Try.underlying24 hf
  have c32 : Try.prog.cellsOf 24 = 32 := by kernel_rfl
  have c1 : Try.prog.cellsOf 5 = 1 := by kernel_rfl
  rw [c32] at hl
  have hcl : cl.length = 32 := hl
  have key : ∀ i, (hi : i < 32) → ∃ n : Int, cl[i]? = some (.int .u8 n) ∧ 0 ≤ n ∧ n < 256 := fun i hi => by
    have h1 := he i hi
    rw [c1, Nat.mul_one] at h1
    obtain ⟨x, hxx⟩ : ∃ x, xs[i]? = some x := ⟨_, List.getElem?_eq_getElem (by omega)⟩
    rw [hxx] at h1
    obtain ⟨K, hK, _, hw⟩ := DataW.trod_int Try.underlying5 h1
    have hb := u8_wf20 hw
    refine ⟨K, ?_, hb.1, hb.2⟩
    have h2 : (cl.drop i).take 1 = [.int .u8 K] := hK
    have h3 : ((cl.drop i).take 1)[0]? = some (.int .u8 K) := by rw [h2]; rfl
    rw [List.getElem?_take, if_pos (by decide), List.getElem?_drop, Nat.add_zero] at h3
    exact h3
  refine ⟨⟨cl.map intOf, by rw [List.length_map, hcl], fun x hx => ?_⟩, trivial, ?_⟩
  rotate_left
  · have : (cl.map intOf).map bV = cl := by
      apply List.ext_getElem?
      intro i
      rw [List.getElem?_map, List.getElem?_map]
      by_cases hi : i < 32
      · obtain ⟨n, hn, _⟩ := key i hi
        rw [hn]
        rfl
      · rw [List.getElem?_eq_none (by omega)]
        rfl
    exact this.symm
  · obtain ⟨u, hu, rfl⟩ := List.mem_map.1 hx
    obtain ⟨i, hi, rfl⟩ := List.mem_iff_getElem.1 hu
    obtain ⟨n, hn, h0, h1⟩ := key i (by omega)
    rw [List.getElem?_eq_getElem hi] at hn
    rw [Option.some.inj hn]
    exact ⟨h0, h1⟩
theorem hBytes20 : Try.prog.bytesOf 24 = 32 := by kernel_rfl
theorem hCells20 : Try.prog.cellsOf 24 = 32 := by kernel_rfl
end Go.Proofs.Ytfafhlahbhopaaa
namespace Go.Proofs.Ytfafhlahbhopaaa.M
def rb (l : List Int) : Nat := l.foldl (fun v z => v * 256 + z.toNat) 0
theorem rb_snoc (l : List Int) (z : Int) : rb (l ++ [z]) = rb l * 256 + z.toNat := by simp [rb]
theorem rb_lt (l : List Int) (h : ∀ z ∈ l, 0 ≤ z ∧ z < 256) : rb l < 256 ^ l.length := by
  have key : ∀ (r : List Int) (v n : Nat), (∀ z ∈ r, 0 ≤ z ∧ z < 256) → v < 256 ^ n → r.foldl (fun v z => v * 256 + z.toNat) v < 256 ^ (n + r.length) := by
    intro r
    induction r with
    | nil => intro v n _ hv; simpa using hv
    | cons z r ih =>
      intro v n hr hv
      have hz := hr z (by simp)
      have := ih (v * 256 + z.toNat) (n + 1) (fun y hy => hr y (by simp [hy])) (by rw [Nat.pow_succ]; omega)
      simpa [Nat.add_assoc, Nat.add_comm 1] using this
  simpa [rb] using key l 0 0 h (by simp)
end Go.Proofs.Ytfafhlahbhopaaa.M
namespace Go.Proofs.Ytfafhlahbhopaaa.Wi
open Go.RowKit
end Go.Proofs.Ytfafhlahbhopaaa.Wi
namespace Go.Proofs.Ytfafhlahbhopaaa.Wi
open Go.RowKit
end Go.Proofs.Ytfafhlahbhopaaa.Wi
namespace Go.Proofs.Ytfafhlahbhopaaa.Wi
open Go.RowKit
end Go.Proofs.Ytfafhlahbhopaaa.Wi
namespace Go.Proofs.Ytfafhlahbhopaaa.Wi
open Go.RowKit
theorem own_built (w : World) (C : Array Value) (n : Nat) (l : List Int) (hn : l.length = n) (hC : C.toList = bs l) (hm : n ≤ maxLen) : Own w.heap.size (w.alloc (.cells C 5)) (.slice (some ⟨w.heap.size, 0, none⟩) n n) l := by
  subst hn
  have hsz : C.size = l.length := by rw [← Array.length_toList, hC]; simp [bs]
  refine ⟨by simp [bs], .inr ⟨w.heap.size, l.length, C, rfl, Nat.le_refl _, heap_alloc_new w _, Nat.le_refl _, hm, by rw [hsz, Nat.mul_one], ?_⟩⟩
  rw [hC]
  exact List.take_of_length_le (by simp [bs])
end Go.Proofs.Ytfafhlahbhopaaa.Wi
namespace Go.Proofs.Ytfafhlahbhopaaa.Wi
open Go.RowKit
end Go.Proofs.Ytfafhlahbhopaaa.Wi
namespace Go.Proofs.Ytfafhlahbhopaaa.Wi
open Go.RowKit
end Go.Proofs.Ytfafhlahbhopaaa.Wi
namespace Go.Proofs.Ytfafhlahbhopaaa.Wi
open Go.RowKit
end Go.Proofs.Ytfafhlahbhopaaa.Wi
namespace Go.Proofs.Ytfafhlahbhopaaa.Wi
/-! A number's one form: what is read without an error is the number's form. -/
theorem dig_snoc (v K i : Nat) (z : Int) (h0 : 0 ≤ z) (h1 : z < 256) (hi : i < K) : M.dig (v * 256 + z.toNat) (K + 1) i = M.dig v K i := by
  unfold M.dig
  have e : 8 * (K + 1 - 1 - i) = 8 + 8 * (K - 1 - i) := by omega
  rw [e, Nat.shiftRight_eq_div_pow, Nat.shiftRight_eq_div_pow, Nat.pow_add, ← Nat.div_div_eq_div_mul, show (v * 256 + z.toNat) / 2 ^ 8 = v from by omega]
theorem digs_rb (ds : List Int) (h : ∀ z ∈ ds, 0 ≤ z ∧ z < 256) : M.digs (M.rb ds) ds.length ds.length = ds := by
  induction hn : ds.length generalizing ds with
  | zero =>
    have : ds = [] := List.eq_nil_of_length_eq_zero hn
    subst this
    rfl
  | succ K ih =>
    obtain ⟨e, z, rfl⟩ : ∃ e z, ds = e ++ [z] := by
      refine ⟨ds.dropLast, ds.getLast (by intro h; rw [h] at hn; simp at hn), ?_⟩
      exact (List.dropLast_concat_getLast _).symm
    have hz := h z (by simp)
    have he : e.length = K := by simpa using hn
    rw [M.rb_snoc, M.digs_succ]
    have h1 : M.digs (M.rb e * 256 + z.toNat) (K + 1) K = M.digs (M.rb e) K K := by
      unfold M.digs
      apply List.map_congr_left
      intro i hi
      exact dig_snoc _ _ _ _ hz.1 hz.2 (by simpa using hi)
    rw [h1, ih e (fun y hy => h y (by simp [hy])) he]
    congr 1
    unfold M.dig
    rw [show 8 * (K + 1 - 1 - K) = 0 from by omega, Nat.shiftRight_zero, show (M.rb e * 256 + z.toNat) % 256 = z.toNat from by omega]
    rw [Int.toNat_of_nonneg hz.1]
theorem rb_ge (z : Int) (r : List Int) (hz : 1 ≤ z) : 256 ^ r.length ≤ M.rb (z :: r) := by
  have key : ∀ (r : List Int) (v : Nat), v * 256 ^ r.length ≤ r.foldl (fun v z => v * 256 + z.toNat) v := by
    intro r
    induction r with
    | nil => intro v; simp
    | cons y r ih =>
      intro v
      refine Nat.le_trans ?_ (ih (v * 256 + y.toNat))
      simp only [List.length_cons, Nat.pow_succ]
      rw [Nat.mul_comm (256 ^ r.length) 256, ← Nat.mul_assoc]
      exact Nat.mul_le_mul_right _ (by omega)
  have := key r z.toNat
  have h2 : 1 * 256 ^ r.length ≤ z.toNat * 256 ^ r.length := Nat.mul_le_mul_right _ (by omega)
  have h3 : M.rb (z :: r) = r.foldl (fun v z => v * 256 + z.toNat) z.toNat := by simp [M.rb]
  rw [h3]
  omega
theorem pow256 (k : Nat) : (256 : Nat) ^ k = 2 ^ (8 * k) := by rw [show (256 : Nat) = 2 ^ 8 from rfl, ← Nat.pow_mul]
theorem nb_rb (ds : List Int) (h : ∀ z ∈ ds, 0 ≤ z ∧ z < 256) (hf : 0 < ds.length → ds.getD 0 0 ≠ 0) : M.nb (M.rb ds) = ds.length := by
  have h1 : M.bl (M.rb ds) ≤ 8 * ds.length := by rw [M.bl_le, ← pow256]; exact M.rb_lt ds h
  cases ds with
  | nil => rfl
  | cons z r =>
    have hz := h z (by simp)
    have hz1 : z ≠ 0 := hf (by simp)
    have h2 := rb_ge z r (by omega)
    have h3 : ¬ M.bl (M.rb (z :: r)) ≤ 8 * r.length := by rw [M.bl_le, ← pow256]; omega
    simp only [List.length_cons] at h1 ⊢
    unfold M.nb
    omega
theorem form_rb (ds : List Int) (h : ∀ z ∈ ds, 0 ≤ z ∧ z < 256) (hf : 0 < ds.length → ds.getD 0 0 ≠ 0) : M.form (M.rb ds) = (ds.length : Int) :: ds := by
  unfold M.form
  rw [nb_rb ds h hf, digs_rb ds h]
end Go.Proofs.Ytfafhlahbhopaaa.Wi
namespace Go.Proofs.Ytfafhlahbhopaaa.Wi
open Go.RowKit
end Go.Proofs.Ytfafhlahbhopaaa.Wi
namespace Go.Proofs.Ytfafhlahbhopaaa.Wi
open Go.RowKit
theorem Own.low {B B' : Nat} {w : World} {v : Value} {l : List Int} (h : Own B w v l) (hb : B' ≤ B) : Own B' w v l := by
  obtain ⟨h1, h2⟩ := h
  refine ⟨h1, ?_⟩
  rcases h2 with h2 | ⟨g, cap, cur, e1, e2, r⟩
  · exact .inl h2
  · exact .inr ⟨g, cap, cur, e1, Nat.le_trans hb e2, r⟩
theorem rb_from (r : List Int) : ∀ v : Nat, r.foldl (fun v z => v * 256 + z.toNat) v = v * 256 ^ r.length + M.rb r := by
  induction r with
  | nil => intro v; simp [M.rb]
  | cons z r ih =>
    intro v
    have h1 := ih (v * 256 + z.toNat)
    have h2 := ih (0 * 256 + z.toNat)
    simp only [List.foldl_cons, List.length_cons, M.rb] at h1 h2 ⊢
    rw [h1, h2, Nat.pow_succ, Nat.add_mul, Nat.zero_mul, Nat.zero_add, Nat.mul_assoc, Nat.mul_comm 256]
    omega
theorem rb_cons (z : Int) (r : List Int) : M.rb (z :: r) = z.toNat * 256 ^ r.length + M.rb r := by
  have := rb_from r (0 * 256 + z.toNat)
  rw [Nat.zero_mul, Nat.zero_add] at this
  show (z :: r).foldl _ 0 = _
  rw [List.foldl_cons, Nat.zero_mul, Nat.zero_add]
  exact this
theorem form_round {v u : Nat} {ds : List Int} (h : v = u * 256 ^ ds.length + M.rb ds) : v = u / 256 * 256 ^ (((u % 256 : Nat) : Int) :: ds).length + M.rb (((u % 256 : Nat) : Int) :: ds) := by
  rw [rb_cons, List.length_cons, Nat.pow_succ, Int.toNat_natCast]
  have := Nat.div_add_mod u 256
  rw [h]
  conv => lhs; rw [← this]
  rw [Nat.add_mul, Nat.mul_comm 256 (u / 256), Nat.mul_assoc, Nat.mul_comm (256 ^ ds.length) 256, Nat.add_assoc]
theorem form_len {v u : Nat} {ds : List Int} (hv : v < 2 ^ 64) (h : v = u * 256 ^ ds.length + M.rb ds) (hu : 0 < u) : ds.length < 8 := by
  refine Nat.lt_of_not_le fun h8 => ?_
  have h1 : 256 ^ 8 ≤ 256 ^ ds.length := Nat.pow_le_pow_right (by decide) h8
  have h2 : 256 ^ ds.length ≤ u * 256 ^ ds.length := Nat.le_mul_of_pos_left _ hu
  have h3 : (256 : Nat) ^ 8 = 2 ^ 64 := by decide
  omega
set_option maxHeartbeats 1000000 in
theorem refform_any (v : Nat) (hv : v < 2 ^ 64) (w : World) :
    Calls Try.prog 96 #[.int .u64 v] w fun e w' => ∃ v', e = .returned v' ∧ Own w.heap.size w' v' (M.form v) ∧ v' ≠ .slice none 0 0 ∧ Below w.heap.size w w' := by
  go_enter Try.func96, Try.ntmps96
  go_wp2_with fail
  go_loopw [0, 3] (fun x b wr => ∃ (u : Nat) (ds : List Int), x = .int .u64 (u : Int) ∧ Own w.heap.size wr b ds ∧ (∀ z ∈ ds, 0 ≤ z ∧ z < 256) ∧ v = u * 256 ^ ds.length + M.rb ds ∧ (u = 0 → 0 < ds.length → ds.getD 0 0 ≠ 0) ∧ ds.length ≤ 8 ∧ Below w.heap.size w wr) (fun x _ _ => (intOf x).toNat)
  case atStart => exact ⟨v, [], rfl, Own.nil _ _, by simp, by simp [M.rb], by simp, by simp, Below.refl _ _⟩
  case round =>
    obtain ⟨u, ds, rfl, hO, hd, hvv, hf, hl8, hB⟩ := hrel
    obtain ⟨g, n, c, hb, hs, _⟩ := hO.hs hd
    subst hb
    have hn := hs.len
    have HS := hide hs
    have HO := hide hO
    have HD := hide hd
    have HV := hide hvv
    have HF := hide hf
    have HB := hide hB
    have hz := hB.size
    clear hO hd hvv hf hB hs
    by_cases hu : 0 < u
    · have hlen := form_len hv HV.out hu
      have hu' : (0 : Int) < (u : Int) := by omega
      have O1 : Own w.heap.size (wr.alloc (.cells #[.int .u8 ((u : Int) % 256)] 5)) (.slice (some ⟨wr.heap.size, 0, none⟩) 1 1) [((u % 256 : Nat) : Int)] := (own_built wr #[.int .u8 ((u : Int) % 256)] 1 [((u % 256 : Nat) : Int)] rfl (by simp [bs]) (by unfold maxLen; omega)).low hz
      have HO1 := hide O1
      have HS1 := hide (HS.out.later ((Below.refl wr.heap.size wr).alloc (Nat.le_refl _) (.cells #[.int .u8 ((u : Int) % 256)] 5)))
      have HB1 := hide (HB.out.alloc hz (.cells #[.int .u8 ((u : Int) % 256)] 5))
      clear O1
      go_wp2_with (at_builtin; go_must (refine app_hs _ rfl (.tmp 9) (.tmp 10) rfl w.heap.size [((u % 256 : Nat) : Int)] _ rfl g n c rfl ds HS1.out HO1.out (by simp; omega) (by simp; omega) ?_))
      intro v2 w2 o2 k2 g2
      have b2 : Below w.heap.size w w2 := HO1.out.grown HB1.out g2 (by simp; omega)
      have hdv : (u : Int).tdiv 256 = (u : Int) / 256 := Int.tdiv_eq_ediv_of_nonneg (by omega)
      have huv : u ≤ v := by
        have h1 := HV.out
        have h2 : u ≤ u * 256 ^ ds.length := Nat.le_mul_of_pos_right _ (Nat.pow_pos (by decide))
        omega
      have hwr : IntKind.wrap .u64 ((u : Int) / 256) = (u : Int) / 256 := by
        unfold IntKind.wrap
        simp [IntKind.bits, IntKind.signed]
        omega
      have O2 := hide o2
      have B2 := hide b2
      clear o2 b2 k2 g2 HO1 HS1 HB1 HS HO HB
      go_wp2
      go_round
      case rel =>
        refine ⟨u / 256, ((u % 256 : Nat) : Int) :: ds, by go_num, O2.out, ?_, form_round HV.out, ?_, by simp; omega, B2.out⟩
        · intro z hz
          rcases List.mem_cons.1 hz with rfl | hz
          · omega
          · exact HD.out z hz
        · intro h0 _
          simp
          omega
      case measure => simp [intOf]; omega
    · obtain rfl : u = 0 := by omega
      have hds : v = M.rb ds := by have := HV.out; rw [Nat.zero_mul, Nat.zero_add] at this; exact this
      have HFm : Hid (M.form v = (ds.length : Int) :: ds) := by
        show _ = _
        rw [hds]
        exact form_rb ds HD.out (fun h => HF.out rfl h)
      have hn8 : n ≤ 8 := by omega
      have O1 : Own w.heap.size (wr.alloc (.cells #[.int .u8 (n : Int)] 5)) (.slice (some ⟨wr.heap.size, 0, none⟩) 1 1) [(n : Int)] := (own_built wr #[.int .u8 (n : Int)] 1 [(n : Int)] rfl (by simp [bs]) (by unfold maxLen; omega)).low hz
      have HO1 := hide O1
      have HS1 := hide (HS.out.later ((Below.refl wr.heap.size wr).alloc (Nat.le_refl _) (.cells #[.int .u8 (n : Int)] 5)))
      have HB1 := hide (HB.out.alloc hz (.cells #[.int .u8 (n : Int)] 5))
      have hwn : IntKind.wrap .u8 (n : Int) = (n : Int) := by
        unfold IntKind.wrap
        simp [IntKind.bits, IntKind.signed]
        omega
      clear O1
      go_wp2_with (at_builtin; go_must (refine app_hs _ rfl (.tmp 17) (.tmp 18) rfl w.heap.size [(n : Int)] _ rfl g n c rfl ds HS1.out HO1.out (by simp; omega) (by simp; omega) ?_))
      intro v2 w2 o2 k2 g2
      have b2 : Below w.heap.size w w2 := HO1.out.grown HB1.out g2 (by simp; omega)
      have hk := k2 (.inl (by intro h; cases h))
      have O2 := hide o2
      have B2 := hide b2
      clear o2 b2 k2 g2 HO1 HS1 HB1 HS HO HB
      go_wp2
      go_ret
      refine ⟨_, rfl, ?_, hk, B2.out⟩
      rw [HFm.out, hn]
      exact O2.out
end Go.Proofs.Ytfafhlahbhopaaa.Wi
namespace Go.Proofs.Ytfafhlahbhopaaa.Wi
open Go.RowKit
end Go.Proofs.Ytfafhlahbhopaaa.Wi
namespace Go.Proofs.Ytfafhlahbhopaaa.Wi
open Go.RowKit
end Go.Proofs.Ytfafhlahbhopaaa.Wi
