import Derived.Test.YtipkflaamncmbaaGreatSk2
import Derived.Test.YtipkflaamncmbaaGreatCg
namespace Go.Proofs.YtipkflaamncmbaaGreat
open Go.RowKit Go.Maps
open Classical
set_option linter.unusedVariables false
set_option linter.unusedSimpArgs false

def Ak.mb (x : Ak) (n r : Int) : Bool := decide (0 ≤ x.p ∧ x.p ≤ r)
theorem Ak.may_any (x : Ak) (n r : Int) (w : World) : Calls Tryz.prog 188 #[x.val, .int .i64 n, .int .i64 r] w fun e w' => e = .returned (.bool (Ak.mb x n r)) ∧ Below w.heap.size w w' := by
  have bw : Hid (Below w.heap.size w (w.alloc (.cells #[.int .i64 x.n, .int .u64 x.h, .int .u64 x.l, .int .i64 x.p] 82))) := (Below.refl _ w).alloc (Nat.le_refl _) _
  show Calls Tryz.prog 188 #[.agg #[.int .i64 x.n, .int .u64 x.h, .int .u64 x.l, .int .i64 x.p], .int .i64 n, .int .i64 r] w _
  by_cases h1 : 0 ≤ x.p
  · by_cases h2 : x.p ≤ r
    · have hk : Ak.mb x n r = true := decide_eq_true ⟨h1, h2⟩
      go_enter Tryz.func188, Tryz.ntmps188
      go_wp2
      go_ret
      exact ⟨by first | rfl | (rw [hk]; rfl), bw.out⟩
    · have hk : Ak.mb x n r = false := decide_eq_false (fun h => h2 h.2)
      go_enter Tryz.func188, Tryz.ntmps188
      go_wp2
      go_ret
      exact ⟨by first | rfl | (rw [hk]; rfl), bw.out⟩
  · have hk : Ak.mb x n r = false := decide_eq_false (fun h => h1 h.1)
    go_enter Tryz.func188, Tryz.ntmps188
    go_wp2
    go_ret
    exact ⟨by first | rfl | (rw [hk]; rfl), bw.out⟩
theorem Ak.ifmay (x : Ak) (n r : Int) (w : World) : (invoke (.fn (.method "amnesia/tally.mayBe") #[]) #[.iface 82 x.val, .int .i64 n, .int .i64 r]).run Tryz.prog w = .ok (.enter 188 #[x.val, .int .i64 n, .int .i64 r]) w := by kernel_rfl
/-- May these votes be, from this node on? -/
def Ak.ckl (c : Cg) (self : Int) : Int → List Ak → Bool
  | _, [] => true
  | least, x :: r => if x.n < least ∨ 2 * c.F + 1 ≤ x.n ∨ x.n = self ∨ Ak.mb x (2 * c.F + 1) c.R = false then false else Ak.ckl c self (x.n + 1) r
def Ak.ck (c : Cg) (self : Int) (L : List Ak) : Int := if c.ok = false then 1 else if Ak.ckl c self 0 L = true then 0 else 80
set_option maxRecDepth 100000 in
set_option maxHeartbeats 2000000 in
theorem Ak.check_any (c : Cg) (self : Int) (L : List Ak) (a : Option Addr) (n k : Nat) (w : World) (h : SlY yAkV w a n k L) :
    Calls Tryz.prog 44 #[c.val, .int .i64 self, .slice a n k] w fun e w' => e = .returned (.int .i64 (Ak.ck c self L)) ∧ Below w.heap.size w w' := by
  have hmx := h.max
  have hcp := h.cap
  have hln := h.len
  unfold maxLen at hmx
  have H := hide h
  have HN := hide hln
  clear h hln
  have B0 : Hid (Below w.heap.size w (w.alloc (.cells #[.int .i64 c.F, .int .i64 c.R, .int .i64 c.P, .bool c.u] 23))) := (Below.refl _ w).alloc (Nat.le_refl _) _
  have cc := hide (fun W => configMayBe_any8 c W)
  unfold Cg.val at cc
  have HCK : Hid (Ak.ck c self L = if c.ok = false then 1 else if Ak.ckl c self 0 L = true then 0 else 80) := rfl
  generalize Ak.ck c self L = CK at *
  show Calls Tryz.prog 44 #[.agg #[.int .i64 c.F, .int .i64 c.R, .int .i64 c.P, .bool c.u], .int .i64 self, .slice a n k] w _
  go_enter Tryz.func44, Tryz.ntmps44
  go_wp2_with fail
  refine (cc.out _).mono ?_
  rintro e w1 ⟨rfl, b1⟩
  dsimp only
  have hz1 : w.heap.size + 1 ≤ w1.heap.size := by have := b1.size; simpa using this
  have D1 : Hid (Below (w.heap.size + 1) (w.alloc (.cells #[.int .i64 c.F, .int .i64 c.R, .int .i64 c.P, .bool c.u] 23)) w1) := by show Below _ _ _; simpa using b1
  clear b1 cc
  have KC : Hid (∀ v, Below (w.heap.size + 1) w1 v → v.cell? ⟨w.heap.size, 0, none⟩ = some (.int .i64 c.F) ∧ v.cell? ⟨w.heap.size, 1, none⟩ = some (.int .i64 c.R)) := fun v hv =>
    ⟨((D1.out.trans hv).cell (p := ⟨w.heap.size, 0, none⟩) (by simp)).trans (by simp), ((D1.out.trans hv).cell (p := ⟨w.heap.size, 1, none⟩) (by simp)).trans (by simp)⟩
  have E1 := hide (B0.out.trans (D1.out.mono (by omega)))
  by_cases hk : c.ok = true
  · have hF : 1 ≤ c.F ∧ c.F ≤ 3 ∧ 1 ≤ c.R ∧ c.R ≤ 256 := of_decide_eq_true hk
    obtain ⟨hF1, hF3, _, _⟩ := hF
    have HC2 : Hid (CK = if Ak.ckl c self 0 (L.drop 0) = true then 0 else 80) := by show _ = _; rw [HCK.out, hk, if_neg (by simp)]; rfl
    rw [hk]
    clear HCK hk
    have hw1 : IntKind.i64.wrap (2 * c.F) = 2 * c.F := by rw [IntKind.wrap_i64]; omega
    have hw2 : IntKind.i64.wrap (2 * c.F + 1) = 2 * c.F + 1 := by rw [IntKind.wrap_i64]; omega
    obtain ⟨k0, k1⟩ := KC.out w1 (Below.refl _ _)
    go_wp2
    go_loopw [20, 8] (fun i l wr => ∃ (j : Nat) (l' : Int), i = .int .i64 (j : Int) ∧ j ≤ n ∧ l = .int .i64 l' ∧ (0 ≤ l' ∧ l' ≤ 8) ∧ Hid (CK = if Ak.ckl c self l' (L.drop j) = true then 0 else 80) ∧ Hid (Below (w.heap.size + 1) w1 wr)) (fun i _ _ => n - (intOf i).toNat)
    case atStart => exact ⟨0, 0, rfl, Nat.zero_le _, rfl, ⟨Int.le_refl _, by omega⟩, HC2, Below.refl _ _⟩
    case round =>
      obtain ⟨j, l', rfl, hj, rfl, ⟨hl0, hl8⟩, hCK, hbl⟩ := hrel
      have zr : w.heap.size + 1 ≤ wr.heap.size := by have := hbl.out.size; omega
      by_cases hlt : j < n
      · have hjl : j < L.length := by rw [HN.out]; exact hlt
        have hg : L[j]? = some L[j] := List.getElem?_eq_getElem hjl
        obtain ⟨q, o, ea, hq, y0, y1, y2, y3⟩ := (H.out.later (E1.out.trans (hbl.out.mono (by omega)))).AkV hg
        cases ea
        have hCK1 : Hid (CK = if (if L[j].n < l' ∨ 2 * c.F + 1 ≤ L[j].n ∨ L[j].n = self ∨ Ak.mb L[j] (2 * c.F + 1) c.R = false then false else Ak.ckl c self (L[j].n + 1) (L.drop (j + 1))) = true then 0 else 80) := by
          show _ = _
          rw [hCK.out, List.drop_eq_getElem_cons hjl, Ak.ckl]
        clear hg hCK
        generalize L[j] = x at *
        have KX : Hid (∀ v, Below (wr.heap.size + 1) (wr.alloc (.cells #[.int .i64 x.n, .int .u64 x.h, .int .u64 x.l, .int .i64 x.p] 82)) v → (v.cell? ⟨wr.heap.size, 0, none⟩ = some (.int .i64 x.n) ∧ v.cell? ⟨wr.heap.size, 1, none⟩ = some (.int .u64 x.h) ∧ v.cell? ⟨wr.heap.size, 2, none⟩ = some (.int .u64 x.l) ∧ v.cell? ⟨wr.heap.size, 3, none⟩ = some (.int .i64 x.p)) ∧ (v.cell? ⟨w.heap.size, 0, none⟩ = some (.int .i64 c.F) ∧ v.cell? ⟨w.heap.size, 1, none⟩ = some (.int .i64 c.R))) := fun v hv =>
          ⟨⟨(hv.cell (p := ⟨wr.heap.size, 0, none⟩) (by simp)).trans (by simp), (hv.cell (p := ⟨wr.heap.size, 1, none⟩) (by simp)).trans (by simp), (hv.cell (p := ⟨wr.heap.size, 2, none⟩) (by simp)).trans (by simp), (hv.cell (p := ⟨wr.heap.size, 3, none⟩) (by simp)).trans (by simp)⟩, KC.out v ((hbl.out.alloc zr _).trans (hv.mono (by omega)))⟩
        have hza : Hid ((wr.alloc (.cells #[.int .i64 x.n, .int .u64 x.h, .int .u64 x.l, .int .i64 x.p] 82)).heap.size = wr.heap.size + 1) := by show _ = _; simp
        have D0 : Hid (Below (wr.heap.size + 1) (wr.alloc (.cells #[.int .i64 x.n, .int .u64 x.h, .int .u64 x.l, .int .i64 x.p] 82)) (wr.alloc (.cells #[.int .i64 x.n, .int .u64 x.h, .int .u64 x.l, .int .i64 x.p] 82))) := Below.refl _ _
        have EB : Hid (Below (w.heap.size + 1) w1 (wr.alloc (.cells #[.int .i64 x.n, .int .u64 x.h, .int .u64 x.l, .int .i64 x.p] 82))) := hbl.out.alloc zr _
        have EE := hide (E1.out.trans (EB.out.mono (by omega)))
        have cn := hide (fun W => x.node_any W)
        unfold Ak.val at cn
        have cm := hide (fun W => x.may_any (2 * c.F + 1) c.R W)
        unfold Ak.val at cm
        obtain ⟨k0, k1⟩ := KC.out _ EB.out
        go_wp2_with fail
        refine (cn.out _).mono ?_
        rintro e w2 ⟨rfl, bb⟩
        have D2 := hide (D0.out.trans (bb.mono (by have := D0.out.size; have h2 := hza.out; omega)))
        clear bb y0 y1 y2 y3 k0 k1
        obtain ⟨⟨y0, y1, y2, y3⟩, ⟨k0, k1⟩⟩ := KX.out w2 D2.out
        dsimp only
        by_cases h1 : x.n < l'
        · have hCK2 : Hid (CK = 80) := by show _ = _; rw [hCK1.out, if_pos (c := x.n < l' ∨ 2 * c.F + 1 ≤ x.n ∨ x.n = self ∨ Ak.mb x (2 * c.F + 1) c.R = false) (.inl h1)]; rfl
          clear hCK1
          go_wp2
          go_ret
          exact ⟨by rw [hCK2.out]; rfl, EE.out.trans (D2.out.mono (by omega))⟩
        · go_wp2_with fail
          refine (cn.out _).mono ?_
          rintro e w3 ⟨rfl, bb⟩
          have D3 := hide (D2.out.trans (bb.mono (by have := D2.out.size; have h2 := hza.out; omega)))
          clear bb y0 y1 y2 y3 k0 k1
          obtain ⟨⟨y0, y1, y2, y3⟩, ⟨k0, k1⟩⟩ := KX.out w3 D3.out
          dsimp only
          by_cases h2 : 2 * c.F + 1 ≤ x.n
          · have hCK2 : Hid (CK = 80) := by show _ = _; rw [hCK1.out, if_pos (c := x.n < l' ∨ 2 * c.F + 1 ≤ x.n ∨ x.n = self ∨ Ak.mb x (2 * c.F + 1) c.R = false) (.inr (.inl h2))]; rfl
            clear hCK1
            go_wp2
            go_ret
            exact ⟨by rw [hCK2.out]; rfl, EE.out.trans (D3.out.mono (by omega))⟩
          · go_wp2_with fail
            refine (cn.out _).mono ?_
            rintro e w4 ⟨rfl, bb⟩
            have D4 := hide (D3.out.trans (bb.mono (by have := D3.out.size; have h2 := hza.out; omega)))
            clear bb y0 y1 y2 y3 k0 k1
            obtain ⟨⟨y0, y1, y2, y3⟩, ⟨k0, k1⟩⟩ := KX.out w4 D4.out
            dsimp only
            by_cases h3 : x.n = self
            · have h3b : (x.n == self) = true := by simp [h3]
              have H3 := hide h3
              clear h3
              have hCK2 : Hid (CK = 80) := by show _ = _; rw [hCK1.out, if_pos (c := x.n < l' ∨ 2 * c.F + 1 ≤ x.n ∨ x.n = self ∨ Ak.mb x (2 * c.F + 1) c.R = false) (.inr (.inr (.inl H3.out)))]; rfl
              clear hCK1
              go_wp2
              go_ret
              exact ⟨by rw [hCK2.out]; rfl, EE.out.trans (D4.out.mono (by omega))⟩
            · have h3b : (x.n == self) = false := by simp [h3]
              go_wp2_with fail
              refine (cm.out _).mono ?_
              rintro e w5 ⟨rfl, bb⟩
              have D5 := hide (D4.out.trans (bb.mono (by have := D4.out.size; have h2 := hza.out; omega)))
              clear bb y0 y1 y2 y3 k0 k1
              obtain ⟨⟨y0, y1, y2, y3⟩, ⟨k0, k1⟩⟩ := KX.out w5 D5.out
              dsimp only
              cases hmb : Ak.mb x (2 * c.F + 1) c.R with
              | false =>
                have hCK2 : Hid (CK = 80) := by show _ = _; rw [hCK1.out, if_pos (c := x.n < l' ∨ 2 * c.F + 1 ≤ x.n ∨ x.n = self ∨ Ak.mb x (2 * c.F + 1) c.R = false) (.inr (.inr (.inr hmb)))]; rfl
                clear hCK1
                go_wp2
                go_ret
                exact ⟨by rw [hCK2.out]; rfl, EE.out.trans (D5.out.mono (by omega))⟩
              | true =>
                have hCK2 : Hid (CK = if Ak.ckl c self (x.n + 1) (L.drop (j + 1)) = true then 0 else 80) := by
                  show _ = _
                  have hno : ¬ (x.n < l' ∨ 2 * c.F + 1 ≤ x.n ∨ x.n = self ∨ Ak.mb x (2 * c.F + 1) c.R = false) := by
                    rintro (hc | hc | hc | hc)
                    · omega
                    · omega
                    · exact h3 hc
                    · rw [hmb] at hc; cases hc
                  rw [hCK1.out, if_neg hno]
                have hw3 : IntKind.i64.wrap (x.n + 1) = x.n + 1 := by rw [IntKind.wrap_i64]; omega
                clear hCK1 hmb
                go_wp2_with fail
                refine (cn.out _).mono ?_
                rintro e w6 ⟨rfl, bb⟩
                have D6 := hide (D5.out.trans (bb.mono (by have := D5.out.size; have h2 := hza.out; omega)))
                clear bb y0 y1 y2 y3 k0 k1
                obtain ⟨⟨y0, y1, y2, y3⟩, ⟨k0, k1⟩⟩ := KX.out w6 D6.out
                dsimp only
                go_wp2
                go_round
                case rel => exact ⟨j + 1, x.n + 1, by go_num, by omega, rfl, ⟨by omega, by omega⟩, hCK2, EB.out.trans (D6.out.mono (by omega))⟩
                case measure => first | (simp [intOf]; done) | (simp [intOf]; omega)
      · obtain rfl : j = n := by omega
        have hCK1 : Hid (CK = 0) := by show _ = _; rw [hCK.out, List.drop_of_length_le (by rw [HN.out]; exact Nat.le_refl _), Ak.ckl, if_pos rfl]
        clear hCK
        go_wp2
        go_ret
        exact ⟨by rw [hCK1.out]; rfl, E1.out.trans (hbl.out.mono (by omega))⟩
  · have hk2 : c.ok = false := by simpa using hk
    have hCK1 : Hid (CK = 1) := by show _ = _; rw [HCK.out, if_pos hk2]
    rw [hk2]
    clear HCK
    go_wp2
    go_ret
    exact ⟨by rw [hCK1.out]; rfl, E1.out⟩

set_option maxRecDepth 100000 in
set_option maxHeartbeats 1000000 in
theorem Ak.Check_any (c : Cg) (self : Int) (L : List Ak) (a : Option Addr) (n k : Nat) (w : World) (h : SlY yAkA w a n k L) (hb : n * 32 ≤ 281474976710656) :
    Calls Tryz.prog 8 #[c.val, .int .i64 self, .slice a n k] w fun e w' => e = .returned (.int .i64 (Ak.ck c self L)) ∧ Below w.heap.size w w' := by
  have B0 : Hid (Below w.heap.size w (w.alloc (.cells #[.int .i64 c.F, .int .i64 c.R, .int .i64 c.P, .bool c.u] 23))) := (Below.refl _ w).alloc (Nat.le_refl _) _
  have hwz : Hid ((w.alloc (.cells #[.int .i64 c.F, .int .i64 c.R, .int .i64 c.P, .bool c.u] 23)).heap.size = w.heap.size + 1) := by show _ = _; simp
  have KC : Hid (∀ v, Below (w.heap.size + 1) (w.alloc (.cells #[.int .i64 c.F, .int .i64 c.R, .int .i64 c.P, .bool c.u] 23)) v → v.cell? ⟨w.heap.size, 0, none⟩ = some (.int .i64 c.F) ∧ v.cell? ⟨w.heap.size, 1, none⟩ = some (.int .i64 c.R) ∧ v.cell? ⟨w.heap.size, 2, none⟩ = some (.int .i64 c.P) ∧ v.cell? ⟨w.heap.size, 3, none⟩ = some (.bool c.u)) := fun v hv =>
    ⟨(hv.cell (p := ⟨w.heap.size, 0, none⟩) (by simp)).trans (by simp), (hv.cell (p := ⟨w.heap.size, 1, none⟩) (by simp)).trans (by simp), (hv.cell (p := ⟨w.heap.size, 2, none⟩) (by simp)).trans (by simp), (hv.cell (p := ⟨w.heap.size, 3, none⟩) (by simp)).trans (by simp)⟩
  have H := hide h
  clear h
  have ck := hide (fun W a' n' k' (hs : SlY yAkV W a' n' k' L) => Ak.check_any c self L a' n' k' W hs)
  unfold Cg.val at ck
  generalize Ak.ck c self L = CK at *
  show Calls Tryz.prog 8 #[.agg #[.int .i64 c.F, .int .i64 c.R, .int .i64 c.P, .bool c.u], .int .i64 self, .slice a n k] w _
  generalize hw0 : w.alloc (.cells #[.int .i64 c.F, .int .i64 c.R, .int .i64 c.P, .bool c.u] 23) = w0 at *
  have s0 := KC.out _ (Below.refl (w.heap.size + 1) w0).drew
  go_enter Tryz.func8, Tryz.ntmps8
  go_wp2_with fail
  try rw [hw0]
  clear hw0
  go_region_held3 (fun v => v.cell? ⟨w.heap.size, 0, none⟩ = some (.int .i64 c.F) ∧ v.cell? ⟨w.heap.size, 1, none⟩ = some (.int .i64 c.R) ∧ v.cell? ⟨w.heap.size, 2, none⟩ = some (.int .i64 c.P) ∧ v.cell? ⟨w.heap.size, 3, none⟩ = some (.bool c.u)) (with_reducible assumption) (first
    | (have := D2; go_at_call 44; refine (ck.out _ _ _ _ (o2.sl' kAkV)).mono ?_; rintro e w3 ⟨rfl, b3⟩; have D3 := hide (D2.out.trans (b3.mono (by have := D2.out.size; have h2 := hwz.out; omega))); have s3 := KC.out w3 D3.out; clear b3 o2)
    | (go_at_call 45; refine (Ak.hold_any L a n k _ (H.out.later B0.out.drew) hb).mono ?_; rintro e w2 ⟨rfl, o2, b2⟩; have D2 := hide ((Below.refl (w.heap.size + 1) w0).drew.trans (b2.mono (by show _ ≤ w0.heap.size; rw [hwz.out]; exact Nat.le_refl _))); have s2 := KC.out w2 D2.out; clear b2))
  go_wp2
  go_ret
  exact ⟨rfl, B0.out.trans (D3.out.mono (by omega))⟩

end Go.Proofs.YtipkflaamncmbaaGreat
