import Derived.Test.YtifhdelkmhlcoabEq
namespace Go.Proofs.Ytifhdelkmhlcoab
open Go.RowKit
set_option linter.unusedVariables false
set_option linter.unusedSimpArgs false

/-- The sources of NonceAlone. -/
structure AS (w : World) (x y z c p d q g r : Nat) (a sx sy sz rp mp R2 rq mq rr mr : Int) : Prop where
  mx : Mix w x sx
  my : Mix w y sy
  mz : Mix w z sz
  kc : Clk w c a
  pp : Prs w p c rp mp
  kd : Clk w d R2
  pq : Prs w q d rq mq
  kg : Clk w g a
  pr : Prs w r g rr mr
/-- .. as they lie. -/
structure AL (x y z c p d q g r : Nat) : Prop where
  o1 : x < y
  o2 : y < z
  o3 : z < c
  o4 : c < p
  o5 : p < d
  o6 : d < q
  o7 : q < g
  o8 : g < r
theorem AS.up0 {w w' : World} {x y z c p d q g r : Nat} {a sx sy sz rp mp R2 rq mq rr mr : Int} (h : AS w x y z c p d q g r a sx sy sz rp mp R2 rq mq rr mr) (u : Upd (fun _ => False) w w') : AS w' x y z c p d q g r a sx sy sz rp mp R2 rq mq rr mr :=
  ⟨h.mx.upd u id, h.my.upd u id, h.mz.upd u id, h.kc.upd u id, h.pp.upd u id, h.kd.upd u id, h.pq.upd u id, h.kg.upd u id, h.pr.upd u id⟩
theorem AS.al {w : World} {x y z c p d q g r : Nat} {a sx sy sz rp mp R2 rq mq rr mr : Int} (h : AS w x y z c p d q g r a sx sy sz rp mp R2 rq mq rr mr) (o : Obj) : AS (w.alloc o) x y z c p d q g r a sx sy sz rp mp R2 rq mq rr mr :=
  h.up0 ((Upd.refl _ _).alloc o)
theorem AS.upx {w w' : World} {x y z c p d q g r : Nat} {a sx sy sz rp mp R2 rq mq rr mr : Int} (h : AS w x y z c p d q g r a sx sy sz rp mp R2 rq mq rr mr) (L : AL x y z c p d q g r) (u : Upd (· = x) w w') (s' : Int) (m : Mix w' x s') : AS w' x y z c p d q g r a s' sy sz rp mp R2 rq mq rr mr := by
  obtain ⟨o1, o2, o3, o4, o5, o6, o7, o8⟩ := L
  exact ⟨m, h.my.upd u (by show ¬ y = x; omega), h.mz.upd u (by show ¬ z = x; omega), h.kc.upd u (by show ¬ c = x; omega), h.pp.upd u (by show ¬ p = x; omega), h.kd.upd u (by show ¬ d = x; omega), h.pq.upd u (by show ¬ q = x; omega), h.kg.upd u (by show ¬ g = x; omega), h.pr.upd u (by show ¬ r = x; omega)⟩
theorem AS.upy {w w' : World} {x y z c p d q g r : Nat} {a sx sy sz rp mp R2 rq mq rr mr : Int} (h : AS w x y z c p d q g r a sx sy sz rp mp R2 rq mq rr mr) (L : AL x y z c p d q g r) (u : Upd (· = y) w w') (s' : Int) (m : Mix w' y s') : AS w' x y z c p d q g r a sx s' sz rp mp R2 rq mq rr mr := by
  obtain ⟨o1, o2, o3, o4, o5, o6, o7, o8⟩ := L
  exact ⟨h.mx.upd u (by show ¬ x = y; omega), m, h.mz.upd u (by show ¬ z = y; omega), h.kc.upd u (by show ¬ c = y; omega), h.pp.upd u (by show ¬ p = y; omega), h.kd.upd u (by show ¬ d = y; omega), h.pq.upd u (by show ¬ q = y; omega), h.kg.upd u (by show ¬ g = y; omega), h.pr.upd u (by show ¬ r = y; omega)⟩
theorem AS.upz {w w' : World} {x y z c p d q g r : Nat} {a sx sy sz rp mp R2 rq mq rr mr : Int} (h : AS w x y z c p d q g r a sx sy sz rp mp R2 rq mq rr mr) (L : AL x y z c p d q g r) (u : Upd (· = z) w w') (s' : Int) (m : Mix w' z s') : AS w' x y z c p d q g r a sx sy s' rp mp R2 rq mq rr mr := by
  obtain ⟨o1, o2, o3, o4, o5, o6, o7, o8⟩ := L
  exact ⟨h.mx.upd u (by show ¬ x = z; omega), h.my.upd u (by show ¬ y = z; omega), m, h.kc.upd u (by show ¬ c = z; omega), h.pp.upd u (by show ¬ p = z; omega), h.kd.upd u (by show ¬ d = z; omega), h.pq.upd u (by show ¬ q = z; omega), h.kg.upd u (by show ¬ g = z; omega), h.pr.upd u (by show ¬ r = z; omega)⟩
theorem AS.upp {w w' : World} {x y z c p d q g r : Nat} {a sx sy sz rp mp R2 rq mq rr mr : Int} (h : AS w x y z c p d q g r a sx sy sz rp mp R2 rq mq rr mr) (L : AL x y z c p d q g r) (u : Upd (· = p) w w') (t' m' : Int) (m : Prs w' p c t' m') : AS w' x y z c p d q g r a sx sy sz t' m' R2 rq mq rr mr := by
  obtain ⟨o1, o2, o3, o4, o5, o6, o7, o8⟩ := L
  exact ⟨h.mx.upd u (by show ¬ x = p; omega), h.my.upd u (by show ¬ y = p; omega), h.mz.upd u (by show ¬ z = p; omega), h.kc.upd u (by show ¬ c = p; omega), m, h.kd.upd u (by show ¬ d = p; omega), h.pq.upd u (by show ¬ q = p; omega), h.kg.upd u (by show ¬ g = p; omega), h.pr.upd u (by show ¬ r = p; omega)⟩
theorem AS.upq {w w' : World} {x y z c p d q g r : Nat} {a sx sy sz rp mp R2 rq mq rr mr : Int} (h : AS w x y z c p d q g r a sx sy sz rp mp R2 rq mq rr mr) (L : AL x y z c p d q g r) (u : Upd (· = q) w w') (t' m' : Int) (m : Prs w' q d t' m') : AS w' x y z c p d q g r a sx sy sz rp mp R2 t' m' rr mr := by
  obtain ⟨o1, o2, o3, o4, o5, o6, o7, o8⟩ := L
  exact ⟨h.mx.upd u (by show ¬ x = q; omega), h.my.upd u (by show ¬ y = q; omega), h.mz.upd u (by show ¬ z = q; omega), h.kc.upd u (by show ¬ c = q; omega), h.pp.upd u (by show ¬ p = q; omega), h.kd.upd u (by show ¬ d = q; omega), m, h.kg.upd u (by show ¬ g = q; omega), h.pr.upd u (by show ¬ r = q; omega)⟩
theorem AS.upr {w w' : World} {x y z c p d q g r : Nat} {a sx sy sz rp mp R2 rq mq rr mr : Int} (h : AS w x y z c p d q g r a sx sy sz rp mp R2 rq mq rr mr) (L : AL x y z c p d q g r) (u : Upd (· = r) w w') (t' m' : Int) (m : Prs w' r g t' m') : AS w' x y z c p d q g r a sx sy sz rp mp R2 rq mq t' m' := by
  obtain ⟨o1, o2, o3, o4, o5, o6, o7, o8⟩ := L
  exact ⟨h.mx.upd u (by show ¬ x = r; omega), h.my.upd u (by show ¬ y = r; omega), h.mz.upd u (by show ¬ z = r; omega), h.kc.upd u (by show ¬ c = r; omega), h.pp.upd u (by show ¬ p = r; omega), h.kd.upd u (by show ¬ d = r; omega), h.pq.upd u (by show ¬ q = r; omega), h.kg.upd u (by show ¬ g = r; omega), m⟩
theorem AS.upd {w w' : World} {x y z c p d q g r : Nat} {a sx sy sz rp mp R2 rq mq rr mr : Int} (h : AS w x y z c p d q g r a sx sy sz rp mp R2 rq mq rr mr) (L : AL x y z c p d q g r) (u : Upd (· = d) w w') (t' : Int) (m : Clk w' d t') : AS w' x y z c p d q g r a sx sy sz rp mp t' rq mq rr mr := by
  obtain ⟨o1, o2, o3, o4, o5, o6, o7, o8⟩ := L
  exact ⟨h.mx.upd u (by show ¬ x = d; omega), h.my.upd u (by show ¬ y = d; omega), h.mz.upd u (by show ¬ z = d; omega), h.kc.upd u (by show ¬ c = d; omega), h.pp.upd u (by show ¬ p = d; omega), m, h.pq.upd u (by show ¬ q = d; omega), h.kg.upd u (by show ¬ g = d; omega), h.pr.upd u (by show ¬ r = d; omega)⟩
/-- Bools that came in. -/
def Bools (w : World) (a : Option Addr) (len : Nat) : Prop := len ≤ 9223372036854775807 ∧ ∀ i, i < len → ∃ b o v, a = some ⟨b, o, none⟩ ∧ w.cell? ⟨b, o + i, none⟩ = some (.bool v)

set_option maxRecDepth 100000 in
set_option maxHeartbeats 1600000 in
theorem alone_walk (a b : Int) (ad : Option Addr) (len cap : Nat) (w : World) (ha : 0 ≤ a ∧ a ≤ 18446744073709551615) (hb : 0 ≤ b ∧ b ≤ 18446744073709551615) (ht : Bools w ad len) :
    Calls Try.prog 6 #[.int .u64 a, .int .u64 b, .slice ad len cap] w fun e w' => e = .returned (.bool true) ∧ Below w.heap.size w w' := by
  have r := Nat.le_refl w.heap.size
  have b0 := Below.refl w.heap.size w
  go_enter Try.func6, Try.ntmps6
  go_wp2_with fail
  refine (newmixed_any _ _).mono ?_
  rintro e w1 ⟨rfl, h1⟩
  have x1 : Mix w1 w.heap.size a := h1 ▸ Mix.new a w ha.1 ha.2
  have b1 : Below w.heap.size w w1 := h1 ▸ b0.alloc r _
  clear h1
  go_wp2_with fail
  refine (newmixed_any _ _).mono ?_
  rintro e w2 ⟨rfl, h2⟩
  have u2 : Upd (fun _ => False) w1 w2 := h2 ▸ (Upd.refl _ _).alloc _
  have y2 : Mix w2 w1.heap.size b := h2 ▸ Mix.new b w1 hb.1 hb.2
  have x2 := x1.upd u2 id
  have b2 : Below w.heap.size w w2 := h2 ▸ b1.alloc b1.size _
  clear h2 u2
  go_wp2_with fail
  refine (newmixed_any _ _).mono ?_
  rintro e w3 ⟨rfl, h3⟩
  have u3 : Upd (fun _ => False) w2 w3 := h3 ▸ (Upd.refl _ _).alloc _
  have z3 : Mix w3 w2.heap.size a := h3 ▸ Mix.new a w2 ha.1 ha.2
  have x3 := x2.upd u3 id
  have y3 := y2.upd u3 id
  have b3 : Below w.heap.size w w3 := h3 ▸ b2.alloc b2.size _
  clear h3 u3
  go_wp2_with fail
  refine (newclock_any _ _).mono ?_
  rintro e w4 ⟨rfl, h4⟩
  have u4 : Upd (fun _ => False) w3 w4 := h4 ▸ (Upd.refl _ _).alloc _
  have c4 : Clk w4 w3.heap.size a := h4 ▸ Clk.new a w3 ha.1 ha.2
  have x4 := x3.upd u4 id
  have y4 := y3.upd u4 id
  have z4 := z3.upd u4 id
  have b4 : Below w.heap.size w w4 := h4 ▸ b3.alloc b3.size _
  clear h4 u4
  go_wp2_with fail
  refine (newpairs_any _ _).mono ?_
  rintro e w5 ⟨rfl, h5⟩
  have u5 : Upd (fun _ => False) w4 w5 := h5 ▸ (Upd.refl _ _).alloc _
  have p5 : Prs w5 w4.heap.size w3.heap.size 0 0 := h5 ▸ Prs.new _ _ c4.lt
  have x5 := x4.upd u5 id
  have y5 := y4.upd u5 id
  have z5 := z4.upd u5 id
  have c5 := c4.upd u5 id
  have b5 : Below w.heap.size w w5 := h5 ▸ b4.alloc b4.size _
  clear h5 u5
  go_wp2_with fail
  refine (newclock_any _ _).mono ?_
  rintro e w6 ⟨rfl, h6⟩
  have u6 : Upd (fun _ => False) w5 w6 := h6 ▸ (Upd.refl _ _).alloc _
  have d6 : Clk w6 w5.heap.size b := h6 ▸ Clk.new b w5 hb.1 hb.2
  have x6 := x5.upd u6 id
  have y6 := y5.upd u6 id
  have z6 := z5.upd u6 id
  have c6 := c5.upd u6 id
  have p6 := p5.upd u6 id
  have b6 : Below w.heap.size w w6 := h6 ▸ b5.alloc b5.size _
  clear h6 u6
  go_wp2_with fail
  refine (newpairs_any _ _).mono ?_
  rintro e w7 ⟨rfl, h7⟩
  have u7 : Upd (fun _ => False) w6 w7 := h7 ▸ (Upd.refl _ _).alloc _
  have q7 : Prs w7 w6.heap.size w5.heap.size 0 0 := h7 ▸ Prs.new _ _ d6.lt
  have x7 := x6.upd u7 id
  have y7 := y6.upd u7 id
  have z7 := z6.upd u7 id
  have c7 := c6.upd u7 id
  have p7 := p6.upd u7 id
  have d7 := d6.upd u7 id
  have b7 : Below w.heap.size w w7 := h7 ▸ b6.alloc b6.size _
  clear h7 u7
  go_wp2_with fail
  refine (newclock_any _ _).mono ?_
  rintro e w8 ⟨rfl, h8⟩
  have u8 : Upd (fun _ => False) w7 w8 := h8 ▸ (Upd.refl _ _).alloc _
  have g8 : Clk w8 w7.heap.size a := h8 ▸ Clk.new a w7 ha.1 ha.2
  have x8 := x7.upd u8 id
  have y8 := y7.upd u8 id
  have z8 := z7.upd u8 id
  have c8 := c7.upd u8 id
  have p8 := p7.upd u8 id
  have d8 := d7.upd u8 id
  have q8 := q7.upd u8 id
  have b8 : Below w.heap.size w w8 := h8 ▸ b7.alloc b7.size _
  clear h8 u8
  go_wp2_with fail
  refine (newpairs_any _ _).mono ?_
  rintro e w9 ⟨rfl, h9⟩
  have u9 : Upd (fun _ => False) w8 w9 := h9 ▸ (Upd.refl _ _).alloc _
  have r9 : Prs w9 w8.heap.size w7.heap.size 0 0 := h9 ▸ Prs.new _ _ g8.lt
  have A : AS w9 w.heap.size w1.heap.size w2.heap.size w3.heap.size w4.heap.size w5.heap.size w6.heap.size w7.heap.size w8.heap.size a a b a 0 0 b 0 0 0 0 :=
    ⟨x8.upd u9 id, y8.upd u9 id, z8.upd u9 id, c8.upd u9 id, p8.upd u9 id, d8.upd u9 id, q8.upd u9 id, g8.upd u9 id, r9⟩
  have L : AL w.heap.size w1.heap.size w2.heap.size w3.heap.size w4.heap.size w5.heap.size w6.heap.size w7.heap.size w8.heap.size :=
    ⟨x1.lt, y2.lt, z3.lt, c4.lt, p5.lt, d6.lt, q7.lt, g8.lt⟩
  have b9 : Below w.heap.size w w9 := h9 ▸ b8.alloc b8.size _
  clear h9 u9 x1 x2 x3 x4 x5 x6 x7 x8 y2 y3 y4 y5 y6 y7 y8 z3 z4 z5 z6 z7 z8 c4 c5 c6 c7 c8 p5 p6 p7 p8 d6 d7 d8 q7 q8 g8 r9 b0 b1 b2 b3 b4 b5 b6 b7 b8
  have hw := b9.size
  have HT := hide ht
  clear ht
  generalize hx : w.heap.size = x at *
  generalize w1.heap.size = y at *
  generalize w2.heap.size = z at *
  generalize w3.heap.size = c at *
  generalize w4.heap.size = p at *
  generalize w5.heap.size = d at *
  generalize w6.heap.size = q at *
  generalize w7.heap.size = g at *
  generalize w8.heap.size = rr at *
  have Lx : x ≤ x ∧ x ≤ y ∧ x ≤ z ∧ x ≤ c ∧ x ≤ p ∧ x ≤ d ∧ x ≤ q ∧ x ≤ g ∧ x ≤ rr := by obtain ⟨o1, o2, o3, o4, o5, o6, o7, o8⟩ := L; omega
  have rx : x ≤ w.heap.size := by omega
  clear r
  go_wp2
  go_loopw [17] (fun i wl => ∃ k : Nat, i = .int .i64 k ∧ k ≤ len ∧ k ≤ 2000 ∧ ∃ s t rd md R2 rq mq, AS wl x y z c p d q g rr a s t s rd md R2 rq mq rd md ∧ Below x w wl) (fun i _ => len - (intOf i).toNat)
  case atStart => exact ⟨0, rfl, Nat.zero_le _, by omega, a, b, 0, 0, b, 0, 0, A, b9⟩
  case round =>
    obtain ⟨k, rfl, hk, hk2, s, t, rd, md, R2, rq, mq, S, bl⟩ := hrel
    clear A b9
    by_cases hlt : k < len
    · by_cases hlt2 : k < 2000
      · obtain ⟨hlen, HTT⟩ := HT.out
        obtain ⟨gb, go, v, rfl, e1⟩ := HTT k hlt
        have e1 := cell_later (hx ▸ bl) e1
        cases v with
        | true =>
          go_wp2_with fail
          refine (mdraw_any _ _ _ S.my).mono ?_
          rintro e w10 ⟨rfl, m10, u10⟩
          have S10 := S.upy L u10 _ m10
          have b10 := upd_below rx bl Lx.2.1 u10
          clear S u10 m10 bl e1
          go_wp2_with fail
          refine (pdraw_any _ _ _ _ _ _ S10.pq S10.kd).mono ?_
          rintro e w11 ⟨rfl, m11, u11⟩
          have S11 := S10.upq L u11 _ _ m11
          have b11 := upd_below rx b10 Lx.2.2.2.2.2.2.1 u11
          have q0 := S11.pq.c0
          clear S10 u11 m11 b10
          go_wp2_with fail
          refine (pass_any _ _ 1 _ S11.kd (by omega)).mono ?_
          rintro e w12 ⟨rfl, m12, u12⟩
          have S12 := S11.upd L u12 _ m12
          have b12 := upd_below rx b11 Lx.2.2.2.2.2.1 u12
          clear S11 u12 m12 b11
          go_wp2
          go_round
          case rel => exact ⟨k + 1, by go_num, by omega, by omega, _, _, _, _, _, _, _, S12, b12⟩
          case measure => simp [intOf]; omega
        | false =>
          go_wp2_with fail
          refine (mdraw_any _ _ _ S.mx).mono ?_
          rintro e w10 ⟨rfl, m10, u10⟩
          have S10 := S.upx L u10 _ m10
          have b10 := upd_below rx bl Lx.1 u10
          clear S u10 m10 bl e1
          go_wp2_with fail
          refine (mdraw_any _ _ _ (S10.al _).mz).mono ?_
          rintro e w11 ⟨rfl, m11, u11⟩
          have S11 := (S10.al _).upz L u11 _ m11
          have b11 := upd_below rx (b10.alloc (Nat.le_trans rx b10.size) _) Lx.2.2.1 u11
          have l10 : z < w10.heap.size ∧ p < w10.heap.size ∧ rr < w10.heap.size := ⟨S10.mz.lt, S10.pp.lt, S10.pr.lt⟩
          have z11 : w10.heap.size < w11.heap.size := by have := u11.size; simp at this; omega
          have U11 := (Dr.new w10 (wordOf (stp s)) (wordOf (stp (stp s))) 47).upd u11 (by show ¬ w10.heap.size = z; omega)
          clear S10 u11 m11 b10
          generalize wordOf (stp s) = W1 at *
          generalize wordOf (stp (stp s)) = W2 at *
          go_wp2_with fail
          refine (pdraw_any _ _ _ _ _ _ (S11.al _).pp (S11.al _).kc).mono ?_
          rintro e w12 ⟨rfl, m12, u12⟩
          have S12 := (S11.al _).upp L u12 _ _ m12
          have b12 := upd_below rx (b11.alloc (Nat.le_trans rx b11.size) _) Lx.2.2.2.2.1 u12
          have z12 : w11.heap.size < w12.heap.size := by have := u12.size; simp at this; omega
          have U12 := (U11.al _).upd u12 (by show ¬ w10.heap.size = p; omega)
          have V12 := (Dr.new w11 W1 W2 47).upd u12 (by show ¬ w11.heap.size = p; omega)
          clear S11 u12 m12 b11 U11
          go_wp2_with fail
          refine (pdraw_any _ _ _ _ _ _ (S12.al _).pr (S12.al _).kg).mono ?_
          rintro e w13 ⟨rfl, m13, u13⟩
          have S13 := (S12.al _).upr L u13 _ _ m13
          have b13 := upd_below rx (b12.alloc (Nat.le_trans rx b12.size) _) Lx.2.2.2.2.2.2.2.2 u13
          have U13 := (U12.al _).upd u13 (by show ¬ w10.heap.size = rr; omega)
          have V13 := (V12.al _).upd u13 (by show ¬ w11.heap.size = rr; omega)
          have P13 := (Dr.new w12 (dH a rd md) (dL a rd md) 47).upd u13 (by show ¬ w12.heap.size = rr; omega)
          clear S12 u13 m13 b12 U12 V12
          have S14 := S13.al (.cells #[.int .u64 (dH a rd md), .int .u64 (dL a rd md)] 47)
          have b14 := b13.alloc (Nat.le_trans rx b13.size) (.cells #[.int .u64 (dH a rd md), .int .u64 (dL a rd md)] 47)
          obtain ⟨_, a0, a1⟩ := U13.al (.cells #[.int .u64 (dH a rd md), .int .u64 (dL a rd md)] 47)
          obtain ⟨_, a2, a3⟩ := V13.al (.cells #[.int .u64 (dH a rd md), .int .u64 (dL a rd md)] 47)
          obtain ⟨_, a4, a5⟩ := P13.al (.cells #[.int .u64 (dH a rd md), .int .u64 (dL a rd md)] 47)
          clear S13 b13 U13 V13 P13
          generalize dH a rd md = H at *
          generalize dL a rd md = Lo at *
          generalize dR a rd md = H' at *
          generalize dM a rd md = Lo' at *
          iterate 32 (first | go_values | go_skip | go_guarded | go_step | go_upon | go_back | (simp only [Int.not_lt, Int.not_le] at *; go_simp))
          refine oper_neq (.tmp 128) (.tmp 129) rfl W1 W2 W1 W2 rfl rfl false (by simp) ?_
          iterate 34 (first | (refine oper_neq (.tmp 132) (.tmp 133) rfl H Lo H Lo rfl rfl false (by simp) ?_) | go_values | go_skip | go_guarded | go_step | go_upon | go_back | (simp only [Int.not_lt, Int.not_le] at *; go_simp))
          go_wp2
          go_round
          case rel => exact ⟨k + 1, by go_num, by omega, by omega, _, _, _, _, _, _, _, S14, b14⟩
          case measure => simp [intOf]; omega
      · go_wp2_with fail
        refine (now_any _ _ _ S.kc).mono ?_
        rintro e w10 ⟨rfl, rfl⟩
        go_wp2_with fail
        refine (works_any _).mono ?_
        rintro e w11 ⟨rfl, b11⟩
        go_wp2
        go_ret
        exact ⟨rfl, by rw [hx]; exact bl.trans (b11.mono (Nat.le_trans rx bl.size))⟩
    · obtain rfl : k = len := by omega
      go_wp2_with fail
      refine (now_any _ _ _ S.kc).mono ?_
      rintro e w10 ⟨rfl, rfl⟩
      go_wp2_with fail
      refine (works_any _).mono ?_
      rintro e w11 ⟨rfl, b11⟩
      go_wp2
      go_ret
      exact ⟨rfl, by rw [hx]; exact bl.trans (b11.mono (Nat.le_trans rx bl.size))⟩

end Go.Proofs.Ytifhdelkmhlcoab
