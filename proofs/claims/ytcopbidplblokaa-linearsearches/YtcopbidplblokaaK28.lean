import Derived.Test.YtcopbidplblokaaK27
namespace Go.Proofs.Ytcopbidplblokaa
open Classical
set_option linter.unusedVariables false
set_option linter.unusedSimpArgs false

/-! ### The document's search is the program's -/
theorem any_congr18 {f g : Nat → Bool} : ∀ {l : List Nat}, (∀ x ∈ l, f x = g x) → l.any f = l.any g
  | [], _ => rfl
  | x :: r, h => by
    rw [List.any_cons, List.any_cons, h x (by simp), any_congr18 (fun y hy => h y (by simp [hy]))]
theorem lck_congr {l : List Kl} {D D' : List Bool} (h : ∀ j, j < l.length → at9 D j = at9 D' j) : lckK l D = lckK l D' := by
  unfold lckK lcI
  exact any_congr18 (fun j hj => by simp only [h j (List.mem_range.1 hj)])
theorem late_congr {l : List Kl} {D D' : List Bool} {x : Kl} (h : ∀ j, j < l.length → at9 D j = at9 D' j) : lateK l D x = lateK l D' x := by
  unfold lateK laI
  exact any_congr18 (fun j hj => by simp only [h j (List.mem_range.1 hj)])
/-- A list of places played through without a break: what the ledger has then. -/
def runs (l : List Kl) : List Int → List Int → List Cl → Option (List Cl)
  | _, [], L => some L
  | ahead, p :: r, L => (l[p.toNat]?).bind fun x => if lateK l (dO l.length ahead) x || offK L x then none else runs l (ahead ++ [p]) r (dnK L x)
theorem runs_bk (l : List Kl) : ∀ (r ahead : List Int) (L L' : List Cl) (i : Nat), runs l ahead r L = some L' → bkA l i ahead r L = if lckK l (dO l.length (ahead ++ r)) then ((i + r.length : Nat) : Int) else -1
  | [], ahead, L, L', i, h => by simp [bkA]
  | p :: r, ahead, L, L', i, h => by
    unfold runs at h
    cases hx : l[p.toNat]? with
    | none => rw [hx] at h; cases h
    | some x =>
      rw [hx, Option.bind_some] at h
      rw [bkA, hx]
      dsimp only
      split at h
      · cases h
      · rename_i hc
        rw [if_neg hc, runs_bk l r _ _ L' _ h]
        simp only [List.append_assoc, List.singleton_append, List.length_cons]
        rw [show i + 1 + r.length = i + (r.length + 1) by omega]
theorem runs_snoc (l : List Kl) : ∀ (r ahead : List Int) (L : List Cl) (p : Int), runs l ahead (r ++ [p]) L = (runs l ahead r L).bind fun L' => (l[p.toNat]?).bind fun x => if lateK l (dO l.length (ahead ++ r)) x || offK L' x then none else some (dnK L' x)
  | [], ahead, L, p => by simp [runs]
  | q :: r, ahead, L, p => by
    simp only [List.cons_append, runs]
    cases hx : l[q.toNat]? with
    | none => rfl
    | some x =>
      simp only [Option.bind_some]
      split
      · rfl
      · rw [runs_snoc l r]
        simp only [List.append_assoc, List.singleton_append]
theorem bk_snoc (l : List Kl) : ∀ (r ahead : List Int) (L L' : List Cl) (i : Nat) (p : Int) (x : Kl), runs l ahead r L = some L' → l[p.toNat]? = some x → (lateK l (dO l.length (ahead ++ r)) x || offK L' x) = true → bkA l i ahead (r ++ [p]) L = ((i + r.length : Nat) : Int)
  | [], ahead, L, L', i, p, x, h, hx, hc => by
    simp [runs] at h
    subst h
    rw [List.append_nil] at hc
    simp [bkA, hx, hc]
  | q :: r, ahead, L, L', i, p, x, h, hx, hc => by
    unfold runs at h
    cases hy : l[q.toNat]? with
    | none => rw [hy] at h; cases h
    | some y =>
      rw [hy, Option.bind_some] at h
      rw [List.cons_append, bkA, hy]
      dsimp only
      split at h
      · cases h
      · rename_i hcy
        rw [if_neg hcy, bk_snoc l r _ _ L' _ p x h hx (by rw [List.append_assoc]; exact hc), List.length_cons, show i + 1 + r.length = i + (r.length + 1) by omega]
/-- The document's search. -/
def frm (l : List Kl) : Nat → List Nat → Option (List Nat)
  | 0, O => if brk l (ints O) = -1 then some O else none
  | k + 1, O => if brk l (ints O) = -1 then some O else if brk l (ints O) < (O.length : Int) then none else (List.range l.length).findSome? fun (q : Nat) => if hasI (ints O) (q : Int) then none else frm l k (O ++ [q])
theorem findSome_map {α β γ : Type} (g : α → Option β) (h : β → γ) : ∀ l : List α, l.findSome? (fun q => (g q).map h) = (l.findSome? g).map h
  | [] => rfl
  | x :: r => by
    rw [List.findSome?_cons, List.findSome?_cons]
    cases g x with
    | none => exact findSome_map g h r
    | some y => rfl
theorem ints_len (O : List Nat) : (ints O).length = O.length := by simp [ints]
theorem ints_snoc (O : List Nat) (q : Nat) : ints (O ++ [q]) = ints O ++ [(q : Int)] := by simp [ints]
theorem hasI_snoc (O : List Int) (p k : Int) : hasI (O ++ [p]) k = (hasI O k || decide (p = k)) := by simp [hasI]
theorem frm_eq (l : List Kl) : ∀ (k : Nat) (O : List Nat) (D : List Bool) (L : List Cl), l.length ≤ D.length → (∀ j, j < l.length → at9 D j = hasI (ints O) (j : Int)) → runs l [] (ints O) [] = some L → frm l k O = (srK l k D L).map (O ++ ·)
  | k, O, D, L, hD, hA, hR => by
    have hA2 : ∀ j, j < l.length → at9 D j = at9 (dO l.length (ints O)) j := fun j hj => by rw [hA j hj, dO_at _ hj]
    have hb : brk l (ints O) = if lckK l D then (O.length : Int) else -1 := by
      unfold brk
      rw [runs_bk l (ints O) [] [] L 0 hR, lck_congr hA2, List.nil_append, Nat.zero_add, ints_len]
    cases hk : lckK l D with
    | false =>
      rw [hk] at hb
      cases k <;> simp [frm, srK, hk, hb]
    | true =>
      rw [hk] at hb
      have hne : ¬ ((O.length : Int) = -1) := by omega
      simp only [if_true] at hb
      cases k with
      | zero => simp [frm, srK, hk, hb, hne]
      | succ k =>
        rw [frm, srK, hb, if_neg hne, if_neg (by omega), if_pos hk, ← findSome_map]
        refine findSome_congr (fun q hq => ?_)
        have hq := List.mem_range.1 hq
        rw [List.getElem?_eq_getElem hq, Option.bind_some]
        cases hh : hasI (ints O) (q : Int) with
        | true =>
          have h1 : at9 D q = true := by rw [hA q hq, hh]
          simp [nxtK, h1]
        | false =>
          have h1 : at9 D q = false := by rw [hA q hq, hh]
          have hx : l[(q : Int).toNat]? = some l[q] := by rw [Int.toNat_natCast, List.getElem?_eq_getElem hq]
          have hlc : lateK l (dO l.length ([] ++ ints O)) l[q] = lateK l D l[q] := by rw [List.nil_append]; exact (late_congr hA2).symm
          simp only [Bool.false_eq_true, if_false]
          cases hc : (lateK l D l[q] || offK L l[q]) with
          | true =>
            have hn : nxtK l D L q l[q] = false := by
              unfold nxtK
              rw [h1]
              cases h2 : offK L l[q] with
              | true => rfl
              | false => rw [h2, Bool.or_false] at hc; rw [hc]; rfl
            have hb2 : brk l (ints (O ++ [q])) = (O.length : Int) := by
              unfold brk
              rw [ints_snoc, bk_snoc l (ints O) [] [] L 0 (q : Int) l[q] hR hx (by rw [hlc]; exact hc), Nat.zero_add, ints_len]
            rw [hn]
            cases k with
            | zero => simp [frm, hb2, hne]
            | succ k =>
              rw [frm, hb2, if_neg hne, if_pos (by simp; omega)]
              rfl
          | false =>
            have hn : nxtK l D L q l[q] = true := by
              unfold nxtK
              rw [Bool.or_eq_false_iff] at hc
              rw [h1, hc.1, hc.2]
              rfl
            have hR2 : runs l [] (ints (O ++ [q])) [] = some (dnK L l[q]) := by
              rw [ints_snoc, runs_snoc, hR, Option.bind_some, hx, Option.bind_some, hlc, hc]
              rfl
            rw [hn, frm_eq l k (O ++ [q]) (D.set q true) (dnK L l[q]) (by simpa using hD) (fun j hj => by
              rw [at9_set D q j (by omega), ints_snoc, hasI_snoc, hA j hj, Bool.or_comm]
              congr 1
              by_cases e : j = q
              · subst e; simp
              · have : ¬ ((q : Int) = (j : Int)) := by omega
                simp [e, this]) hR2]
            cases srK l k (D.set q true) (dnK L l[q]) <;> simp
theorem frm_lst (l : List Kl) (h8 : l.length ≤ 8) : frm l l.length [] = lst l := by
  rw [frm_eq l l.length [] D0 [] h8 (fun j hj => by
    have : j < 8 := by omega
    match j, this with
    | 0, _ => rfl
    | 1, _ => rfl
    | 2, _ => rfl
    | 3, _ => rfl
    | 4, _ => rfl
    | 5, _ => rfl
    | 6, _ => rfl
    | 7, _ => rfl) rfl]
  unfold lst
  cases srK l l.length D0 [] <;> simp

end Go.Proofs.Ytcopbidplblokaa
