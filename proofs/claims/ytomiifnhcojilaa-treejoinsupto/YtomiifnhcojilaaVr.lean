import Derived.Test.YtomiifnhcojilaaVl
namespace Go.Proofs.Ytomiifnhcojilaa
open Go.RowKit Go.Maps
open Classical
set_option linter.unusedVariables false
set_option linter.unusedSimpArgs false

/-! What is known of a frame, as one fact: which slot holds what; a step adds one, nothing is carried over by hand. -/
def look : List (Nat × Value) → Nat → Option Value
  | [], _ => none
  | (k, v) :: r, j => bif Nat.beq k j then some v else look r j
structure Rp (T : Array Value) (n : Nat) (L : List (Nat × Value)) : Prop where
  z : T.size = n
  at_ : ∀ j v, look L j = some v → T[j]? = some v
theorem Rp.a {T : Array Value} {n : Nat} {L : List (Nat × Value)} (h : Rp T n L) (j : Nat) {v : Value} (e : look L j = some v) : T[j]? = some v := h.at_ j v e
theorem Rp.nil {T : Array Value} {n : Nat} (h : T.size = n) : Rp T n [] := ⟨h, fun j v e => by cases e⟩
theorem Rp.cons {T : Array Value} {n : Nat} {L : List (Nat × Value)} (h : Rp T n L) {j : Nat} {v : Value} (e : T[j]? = some v) : Rp T n ((j, v) :: L) := ⟨h.z, fun i x hx => by
  unfold look at hx
  cases hb : Nat.beq j i with
  | true =>
    rw [hb] at hx
    have := Nat.eq_of_beq_eq_true hb
    subst this
    cases hx
    exact e
  | false =>
    rw [hb] at hx
    exact h.at_ i x hx⟩
theorem Rp.k {T : Array Value} {n d : Nat} {L : List (Nat × Value)} {c : Bool} {V : Value} {G : Array Value → Prop} (h : Rp T n L) (g : ∀ T', Rp T' n ((d, gw c V) :: L) → G T') : ∀ T', T'.size = n → (∀ j, j ≠ d → T'[j]? = T[j]?) → T'[d]? = some (gw c V) → G T' := fun T' z k s => g T' ⟨z, fun i x hx => by
  unfold look at hx
  cases hb : Nat.beq d i with
  | true =>
    rw [hb] at hx
    have := Nat.eq_of_beq_eq_true hb
    subst this
    cases hx
    exact s
  | false =>
    rw [hb] at hx
    have hne : i ≠ d := fun e => by subst e; rw [Nat.beq_refl] at hb; cases hb
    exact (k i hne).trans (h.at_ i x hx)⟩
theorem Rp.kc {T : Array Value} {n d : Nat} {L : List (Nat × Value)} {c : Bool} {V : Value} {R : World → Prop} {G : Array Value → World → Prop} (h : Rp T n L) (g : ∀ T' w', R w' → Rp T' n ((d, gw c V) :: L) → G T' w') : ∀ T' w', R w' → T'.size = n → (∀ j, j ≠ d → T'[j]? = T[j]?) → T'[d]? = some (gw c V) → G T' w' := fun T' w' r => h.k (G := fun T'' => G T'' w') (fun T'' q => g T'' w' r q) T'
theorem Rp.e {T : Array Value} {n : Nat} {L : List (Nat × Value)} (h : Rp T n L) {df : List Deferred} {j : Nat} {v : Value} (e : look L j = some (gw true v)) : (⟨T, df⟩ : Act).eval (.tmp j) = v := ev (h.at_ j _ e) rfl

/-- A plain operation that only yields a value. -/
theorem Rp.t {T : Array Value} {n d : Nat} {L : List (Nat × Value)} {ops : Array Oper} {rest : List Oper} {o : Oper} {df : List Deferred} {w : World} {Q : Exit → Act → World → Prop} (h : Rp T n L) (V : Value) (he : (execOp (⟨T, df⟩ : Act).eval o).run Try.prog w = .ok (.value V) w) (hk : ∀ T', Rp T' n ((d, gw true V) :: L) → wpList Try.prog ops Q rest ⟨T', df⟩ w) (hg : o.guard = none := by rfl) (hd : o.dst = some d := by rfl) (hn : d < n := by decide) : wpList Try.prog ops Q (o :: rest) ⟨T, df⟩ w :=
  vl true V (want_none hg) (fun _ => he) hd h.z hn (h.k hk)
/-- The same in a region that draws and only reads. -/
theorem Rp.q {T : Array Value} {n d : Nat} {L : List (Nat × Value)} {ops : Array Oper} {rest : List Oper} {o : Oper} {df : List Deferred} {C : World → Prop} {Q : Act → Prop} (h : Rp T n L) (V : Value) (he : ∀ v, C v → (execOp (⟨T, df⟩ : Act).eval o).run Try.prog v = .ok (.value V) v) (hk : ∀ T', Rp T' n ((d, gw true V) :: L) → VJ ops C Q rest ⟨T', df⟩) (hg : o.guard = none := by rfl) (hd : o.dst = some d := by rfl) (hn : d < n := by decide) : VJ ops C Q (o :: rest) ⟨T, df⟩ :=
  vq true V (want_none hg) (fun _ => he) hd h.z hn (h.k hk)

end Go.Proofs.Ytomiifnhcojilaa
