import Derived.Test.YthggipeclcbfeaaGs1
import Derived.OwnWalk
namespace Go.Proofs.Ythggipeclcbfeaa
open Go.RowKit
set_option linter.unusedVariables false
set_option linter.unusedSimpArgs false

def yB : Fr.Lay Bool := ⟨4, 37, 1, 1, fun x => [.bool x], false⟩
theorem kB : yB.Ok := ⟨by decide, fun x => rfl, fun x u h => by
    simp [yB] at h
    subst h; rfl, Try.underlying37, ⟨.bool false, by kernel_rfl, rfl⟩⟩
def yI : Fr.Lay Int := ⟨3, 38, 1, 8, fun x => [.int .i64 x], 0⟩
theorem kI : yI.Ok := ⟨by decide, fun x => rfl, fun x u h => by
    simp [yI] at h
    subst h; rfl, Try.underlying38, ⟨.int .i64 0, by kernel_rfl, rfl⟩⟩
theorem fl_one1 {α : Type} {Y : Fr.Lay α} (f : α → Value) (h : ∀ x, Y.cs x = [f x]) : ∀ l : List α, Fr.fl Y l = l.map f
  | [] => rfl
  | x :: r => by rw [Fr.fl, h, fl_one1 f h r]; rfl
theorem rw1_bool {B : Nat} {w : World} {b n : Nat} (h : Fr.OwnY yB B w (.slice (some ⟨b, 0, none⟩) n n) (List.replicate n false)) : Rw1 4 B w b n ((List.replicate n false).map Value.bool) := by
  unfold Fr.OwnY at h
  rw [fl_one1 Value.bool (fun _ => rfl), List.length_replicate] at h
  exact ⟨by simp, h⟩
theorem rw1_int {B : Nat} {w : World} {b n : Nat} (h : Fr.OwnY yI B w (.slice (some ⟨b, 0, none⟩) n n) (List.replicate n 0)) : Rw1 3 B w b n ((List.replicate n (0 : Int)).map (Value.int .i64)) := by
  unfold Fr.OwnY at h
  rw [fl_one1 (Value.int .i64) (fun _ => rfl), List.length_replicate] at h
  exact ⟨by simp, h⟩
theorem Rw1.low {T : TypeId} {B B' : Nat} {w : World} {b n : Nat} {vs : List Value} (h : Rw1 T B w b n vs) (hB : B' ≤ B) : Rw1 T B' w b n vs := by
  obtain ⟨h0, h1, h2⟩ := h
  refine ⟨h0, h1, ?_⟩
  rcases h2 with h2 | ⟨g, cap, cur, e1, e2, r⟩
  · exact .inl h2
  · exact .inr ⟨g, cap, cur, e1, Nat.le_trans hB e2, r⟩
theorem made00 {R : Int} (h : 1 ≤ R) : made R 0 0 = 0 := by
  unfold made
  split <;> rfl
/-- A wiped replica that draws at the reading at which it had drawn: not fresh. -/
theorem lazy_fr {a R : Int} {i n : Nat} {rd md : Nat → Int} {W : List Bool} {C : List Int} {L : List (Int × Int × Int)} (h : GI a R i n rd md W C L) (n1 : 1 ≤ n) (h7 : n ≤ 7) (hi : i < 3009) (m : Int) (m0 : 0 ≤ m) (m1 : m ≤ i) (hg : Fr.gx (tos L) ((0 : Nat) : Int) < Fr.nv R (m + 1)) :
    Fr.fr (tos ((L ++ [(((0 : Nat) : Int), R, m + 1)]) ++ [(((0 : Nat) : Int), R, 0 + 1)])) = (false, (L.length : Int) + 1) ∧ ∀ e ∈ tos ((L ++ [(((0 : Nat) : Int), R, m + 1)]) ++ [(((0 : Nat) : Int), R, 0 + 1)]), e.fits := by
  have I1 := h.draw 0 n1 h7 m m0 m1 (by omega) hg
  have r0 := h.r0
  have r1 := h.r1
  have a0 := h.a0
  have et : tos (L ++ [(((0 : Nat) : Int), R, m + 1)]) = tos L ++ [⟨((0 : Nat) : Int), R, m + 1⟩] := tos_app _ _
  have et2 : tos ((L ++ [(((0 : Nat) : Int), R, m + 1)]) ++ [(((0 : Nat) : Int), R, 0 + 1)]) = tos (L ++ [(((0 : Nat) : Int), R, m + 1)]) ++ [⟨((0 : Nat) : Int), R, 0 + 1⟩] := tos_app _ _
  have ev : (⟨((0 : Nat) : Int), R, m + 1⟩ : Fr.St).v = Fr.nv R (m + 1) := rfl
  have ev2 : (⟨((0 : Nat) : Int), R, 0 + 1⟩ : Fr.St).v = Fr.nv R (0 + 1) := rfl
  have v0 : 0 ≤ Fr.nv R (m + 1) := by unfold Fr.nv; omega
  have hle : Fr.nv R (0 + 1) ≤ Fr.gx (tos (L ++ [(((0 : Nat) : Int), R, m + 1)])) ((0 : Nat) : Int) := by
    rw [et, gx_snoc _ (by rw [ev]; exact v0)]
    simp only [↓reduceIte, ev]
    have : Fr.nv R (0 + 1) ≤ Fr.nv R (m + 1) := by unfold Fr.nv; omega
    omega
  constructor
  · rw [et2, fr_snoc _ _ I1.fr, ev2, if_pos hle, tos_len]
    simp
  · intro e he
    rw [et2, List.mem_append, List.mem_singleton] at he
    rcases he with he | he
    · exact I1.fits e he
    · subst he
      exact ⟨Fr.wf_i64 (by show _ ≤ ((0 : Nat) : Int) ∧ ((0 : Nat) : Int) ≤ _; omega), by show 0 ≤ R ∧ R < _; omega, by show 0 ≤ (0 : Int) + 1 ∧ (0 : Int) + 1 < _; omega⟩
theorem GD.lo3 {w : World} {B g c sg n cap : Nat} {p : Nat → Nat} {vd : Value} {R : Int} {rd md : Nat → Int} {L : List (Int × Int × Int)} (h : GD w B g c sg n cap p vd R rd md L) {b k : Nat} (h1 : b ≤ p k) (h2 : b ≤ g) (h3 : b ≤ B) : ∀ j, (j = p k ∨ j = g ∨ vd.ownBlock = some j) → b ≤ j := by
  rintro j (e | e | e)
  · rw [e]; exact h1
  · rw [e]; exact h2
  · exact Nat.le_trans h3 (h.D.lt j e).1
/-- The acts of a script that came in. -/
def CameA (W : World) (a : Option Addr) (len cap : Nat) : Prop := len ≤ cap ∧ cap ≤ 140737488355328 ∧ ∀ i, i < len → ∃ q o K nd N, a = some ⟨q, o, none⟩ ∧ q < W.heap.size ∧ W.cell? ⟨q, o + i * 3, none⟩ = some (.int .i64 K) ∧ W.cell? ⟨q, o + i * 3 + 1, none⟩ = some (.int .i64 nd) ∧ W.cell? ⟨q, o + i * 3 + 2, none⟩ = some (.int .u64 N) ∧ 0 ≤ N ∧ N ≤ 18446744073709551615

set_option maxRecDepth 100000 in
set_option maxHeartbeats 12000000 in
theorem groupfresh_walk (a0 a1 : Int) (a2 : Option Addr) (len cap : Nat) (lz : Bool) (W : World) (h1 : 0 ≤ a1 ∧ a1 ≤ 18446744073709551615) (h2 : CameA W a2 len cap) :
    Calls Try.prog 4 #[.int .i64 a0, .int .u64 a1, .slice a2 len cap, .bool lz] W fun e w' => e = .returned (.bool true) ∧ Below W.heap.size W w' := by
  have H2 := hide h2
  obtain ⟨l1, l2, l3⟩ := h2
  clear l3

  obtain ⟨s, hs, s0, s1⟩ : ∃ s : Int, Int.tmod a1 4611686018427387904 = s ∧ 0 ≤ s ∧ s < 4611686018427387904 := ⟨_, rfl, by rw [Int.tmod_eq_emod_of_nonneg h1.1]; omega, by rw [Int.tmod_eq_emod_of_nonneg h1.1]; omega⟩
  have WI := hide (fun k w => within_any k 6 w (by omega))
  go_enter Try.func4, Try.ntmps4
  go_wp2_with fail
  refine (WI.out a0 W).mono ?_
  rintro e w1 ⟨r, rfl, hr, rfl⟩
  dsimp only
  obtain ⟨n, hn, n1, n7⟩ : ∃ n : Nat, 1 + (r : Int) = (n : Int) ∧ 1 ≤ n ∧ n ≤ 7 := ⟨r + 1, by omega, by omega, by omega⟩
  obtain ⟨at_, ha, a0', a1'⟩ : ∃ a : Int, 1 + s = a ∧ 1 ≤ a ∧ a ≤ 4611686018427387904 := ⟨1 + s, rfl, by omega, by omega⟩
  have hwn : IntKind.i64.wrap (1 + (r : Int)) = (n : Int) := by rw [IntKind.wrap_i64]; omega
  have hws : IntKind.u64.wrap s = s := by rw [IntKind.wrap_u64]; omega
  have hwa : IntKind.u64.wrap (1 + s) = at_ := by rw [IntKind.wrap_u64]; omega
  go_wp2_with fail
  clear hn ha hwn hws hwa hs s0 s1
  refine (newgroup_any n at_ W n1 n7 (by omega) (by omega)).mono ?_
  rintro e w2 ⟨g, c, sg, cp, p, rfl, D2, b2, hg, hc, hp⟩
  dsimp only
  have DD := hide D2
  have B2 := hide b2
  clear D2 b2
  have hnM : n ≤ maxLen := by unfold maxLen; omega
  go_wp2_with (at_make; first
    | (refine Fr.makeY kB _ rfl (.tmp 48) rfl n rfl hnM (by show n * 1 ≤ _; omega) ?_; intro w3 o3 b3)
    | (refine Fr.makeY kI _ rfl (.tmp 50) rfl n rfl hnM (by show n * 8 ≤ _; omega) ?_; intro w4 o4 b4))
  have N4 : Hid (NG W w2.heap.size g c sg n cp p w2.heap.size w3.heap.size at_ (.slice none 0 0) at_ (fun _ => 0) (fun _ => 0) (List.replicate n false) (List.replicate n 0) [] 0 w4) := by
    have z3 := o3.blk _ rfl
    have z2 := b3.size
    refine ⟨(DD.out.bel b3).bel b4, GI.new at_ n ⟨a0', a1'⟩, (rw1_bool o3).upd (S := fun _ => False) (Upd.of_below b4) id, (rw1_int o4).low z2, by omega, ⟨fun e => (by cases e), fun e => (by cases e)⟩, ?_, ⟨hg, hc, hp⟩, B2.out.size⟩
    exact bafter (bafter B2.out (S := fun _ => False) (Upd.of_below b3) (Nat.le_refl _) (fun _ => False.elim)) (S := fun _ => False) (Upd.of_below b4) (Nat.le_refl _) (fun _ => False.elim)
  clear o3 b3 o4 b4 DD B2
  generalize w2.heap.size = B at *
  generalize w3.heap.size = bc at *
  go_wp2_with fail
  go_loopw [15] (fun i wr => ∃ (k j : Nat) (R : Int) (rd md : Nat → Int) (vd : Value) (Wl : List Bool) (Cl : List Int) (L : List (Int × Int × Int)), i = .int .i64 (k : Int) ∧ k ≤ len ∧ k ≤ 1000 ∧ j ≤ 2 * k ∧ Hid (NG W B g c sg n cp p B bc at_ vd R rd md Wl Cl L j wr)) (fun i _ => 1000 - (intOf i).toNat)
  case atStart => exact ⟨0, 0, _, _, _, _, _, _, _, rfl, by omega, by omega, by omega, N4⟩
  case round =>
    obtain ⟨k, j, R, rd, md, vd, Wl, Cl, L, rfl, hkl, hk, hj, N⟩ := hrel
    clear N4
    by_cases hgo : k < len ∧ k < 1000
    · obtain ⟨hk1, hk2⟩ := hgo
      obtain ⟨q, o, K, nd, Nn, ea, hq, c0, c1, c2, n0, nm⟩ := H2.out.2.2 k hk1
      subst ea
      have d0 := (N.out.hb.cell (p := ⟨q, o + k * 3, none⟩) hq).trans c0
      have d1 := (N.out.hb.cell (p := ⟨q, o + k * 3 + 1, none⟩) hq).trans c1
      have d2 := (N.out.hb.cell (p := ⟨q, o + k * 3 + 2, none⟩) hq).trans c2
      clear c0 c1 c2
      obtain ⟨m, hm, hm6⟩ : ∃ m : Nat, (n : Int) - 1 = (m : Int) ∧ m < n := ⟨n - 1, by omega, by omega⟩
      have hwm : IntKind.i64.wrap ((n : Int) - 1) = (m : Int) := by rw [IntKind.wrap_i64]; omega
      go_wp2_with fail
      refine (within_any nd m _ (by omega)).mono ?_
      rintro e w5 ⟨x, rfl, hx, rfl⟩
      dsimp only
      have hxn : x < n := by omega
      clear hm hwm WI
      have ji : j < 3000 := by omega
      have r0 := N.out.I.r0
      have r1 := N.out.I.r1
      have ll := N.out.I.ll
      by_cases hp01 : K = 0 ∨ K = 1
      · obtain ⟨t, ht, t0, t1⟩ : ∃ t : Int, Int.tmod Nn 1073741824 = t ∧ 0 ≤ t ∧ t < 1073741824 := ⟨_, rfl, by rw [Int.tmod_eq_emod_of_nonneg n0]; omega, by rw [Int.tmod_eq_emod_of_nonneg n0]; omega⟩
        have hwt : IntKind.u64.wrap t = t := by rw [IntKind.wrap_u64]; omega
        have GP := hide (gpass_any t N.out.D t0 (by omega))
        rcases hp01 with rfl | rfl
        all_goals
          go_wp2_with fail
          refine GP.out.mono ?_
          rintro e w6 ⟨rfl, D6, u6⟩
          dsimp only
          have N6 := hide (N.out.pass t t0 (by omega) (by omega) D6 u6)
          clear N D6 u6 GP d0 d1 d2 hwt ht
          go_wp2
          go_round
          case rel => exact ⟨k + 1, j + 1, _, _, _, _, _, _, _, by go_num, by omega, by omega, by omega, N6⟩
          case measure => simp [intOf]; omega
      · have K0 : ¬ K = 0 := fun e => hp01 (.inl e)
        have K1 : ¬ K = 1 := fun e => hp01 (.inr e)
        clear hp01
        by_cases K2 : K = 2
        · subst K2
          clear K0 K1
          have GP := hide (gwipe_any x N.out.D hxn)
          go_wp2_with fail
          refine GP.out.mono ?_
          rintro e w6 ⟨rfl, D6, u6⟩
          dsimp only
          obtain ⟨⟨b, y0⟩, y1, n6⟩ := N.out.wipe hxn D6 u6
          have N6 := hide n6
          clear N D6 u6 GP d0 d1 d2 n6
          go_wp2
          go_round
          case rel => exact ⟨k + 1, j, _, _, _, _, _, _, _, by go_num, by omega, by omega, by omega, N6⟩
          case measure => simp [intOf]; omega
        · obtain ⟨b, hb, y0, y1⟩ := N.out.w1 hxn
          cases b
          · have hg' := hide (N.out.fresh hxn hb)
            obtain ⟨m0, m1, m2⟩ := N.out.made_le hxn
            have GP := hide (gdraw_any x (N.out.unmark x) hxn m2 (by omega))
            have hcn := cnt_le L (x : Int)
            have hra : ¬ R < at_ := by omega
            go_wp2_with fail
            refine GP.out.mono ?_
            rintro e w6 ⟨rfl, vd', D6, hv, u6⟩
            dsimp only
            obtain ⟨z0, z1, n6⟩ := N.out.draw hxn (by omega) hg'.out D6 hv u6 ((Below.refl _ w6).alloc (Nat.le_refl _) (.cells #[.int .u64 R, .int .u64 (made R (rd x) (md x) + 1)] 42))
            have N6 := hide n6
            clear N D6 u6 GP d0 d1 d2 n6 hg' hv m2
            generalize made R (rd x) (md x) = mm at *
            generalize (cnt L (x : Int)) = cq at *
            go_wp2
            go_round
            case rel => exact ⟨k + 1, j + 1, _, _, _, _, _, _, _, by go_num, by omega, by omega, by omega, N6⟩
            case measure => simp [intOf]; omega
          · have GP := hide (gpass_any 1 N.out.D (by omega) (by omega))
            have hg' := hide (N.out.fresh1 hxn hb)
            go_wp2_with fail
            refine GP.out.mono ?_
            rintro e w5 ⟨rfl, D5, u5⟩
            dsimp only
            have N5 := hide (N.out.pass 1 (by omega) (by omega) (by omega) D5 u5)
            clear N D5 u5 GP y0 y1 d0 d1 d2
            have r0' : at_ ≤ R + 1 := by omega
            clear r0 r1
            generalize R + 1 = R1 at *
            obtain ⟨b, hb5, y0, y1⟩ := N5.out.w1 hxn
            obtain ⟨m0, m1, m2⟩ := N5.out.made_le hxn
            have GP := hide (gdraw_any x (N5.out.unmark x) hxn m2 (by omega))
            have hcn := cnt_le L (x : Int)
            have hra : ¬ R1 < at_ := by omega
            go_wp2_with fail
            refine GP.out.mono ?_
            rintro e w6 ⟨rfl, vd', D6, hv, u6⟩
            dsimp only
            obtain ⟨z0, z1, n6⟩ := N5.out.draw hxn (by omega) hg'.out D6 hv u6 ((Below.refl _ w6).alloc (Nat.le_refl _) (.cells #[.int .u64 R1, .int .u64 (made R1 (rd x) (md x) + 1)] 42))
            have N6 := hide n6
            clear N5 D6 u6 GP n6 hg' hv m2 y0 y1
            generalize made R1 (rd x) (md x) = mm at *
            generalize (cnt L (x : Int)) = cq at *
            go_wp2
            go_round
            case rel => exact ⟨k + 1, j + 1 + 1, _, _, _, _, _, _, _, by go_num, by omega, by omega, by omega, N6⟩
            case measure => simp [intOf]; omega
    · have hex : ¬ k < len ∨ (k < len ∧ ¬ k < 1000) := by omega
      have ji : j < 3000 := by omega
      have ll := N.out.I.ll
      clear hgo WI
      rcases hex with hA | ⟨hA, hA2⟩
      all_goals
        go_wp2_with fail
        refine (drawn_all N.out.D.G N.out.D.D N.out.D.dn (by omega)).mono ?_
        rintro e w6 ⟨v6, rfl, o6, b6⟩
        dsimp only
        obtain ⟨a6, c6, rfl, f1, f2, f3, f4⟩ := o6.form
        have F6 := Fr.fresh_any (tos L) a6 c6 w6 (by rw [tos_len]; exact o6.y.sl' Fr.kT) N.out.I.fits (by rw [tos_len]; omega)
        rw [tos_len, N.out.I.fr] at F6
        go_wp2_with fail
        refine F6.mono ?_
        rintro e w7 ⟨rfl, b7⟩
        dsimp only
        have N7 := hide ((N.out.bel b6).bel b7)
        have O7 : Hid (OwnS wr.heap.size w7 (.slice a6 L.length c6) L) := o6.upd (S := fun _ => False) (Upd.of_below b7) (fun _ _ => id)
        clear N o6 b6 b7 F6
        unfold maxLen at f2
        go_wp2_with fail
        go_loopw [22] (fun i wq => ∃ kk : Nat, i = .int .i64 (kk : Int) ∧ kk ≤ n ∧ Hid (Upd (fun _ => False) w7 wq)) (fun i _ => n - (intOf i).toNat)
        case atStart => exact ⟨0, rfl, by omega, Upd.refl _ _⟩
        case round =>
          obtain ⟨kk, rfl, hkk, uq⟩ := hrel
          by_cases hlt : kk < n
          · obtain ⟨z0, z1⟩ := (N7.out).c1 hlt
            have y0 := (uq.out.cell (p := ⟨bc, kk, none⟩) N7.out.oc.lt.2 id).trans z0
            clear z0 z1
            have hc0 := cnt_le L (kk : Int)
            have hce : cnt (L.take L.length) (kk : Int) = cnt L (kk : Int) := by rw [List.take_length]
            have HCE := hide hce
            clear hce
            go_wp2_with fail
            go_loopw [23, 24] (fun mv i wz => ∃ jj : Nat, i = .int .i64 (jj : Int) ∧ jj ≤ L.length ∧ mv = .int .i64 (cnt (L.take jj) (kk : Int) : Int) ∧ Hid (Upd (fun _ => False) w7 wz)) (fun _ i _ => L.length - (intOf i).toNat)
            case atStart => exact ⟨0, rfl, by omega, by simp [cnt], uq⟩
            case round =>
              obtain ⟨jj, rfl, hjj, rfl, uz⟩ := hrel
              by_cases hl2 : jj < L.length
              · have hd : L[jj]? = some L[jj] := List.getElem?_eq_getElem hl2
                have hct := cnt_take hd (kk : Int)
                have hcb := cnt_le (L.take jj) (kk : Int)
                rw [List.length_take] at hcb
                obtain ⟨q6, e6⟩ : ∃ q6, a6 = some ⟨q6, 0, none⟩ := by
                  cases a6 with
                  | none => have := (f3 rfl).1; rw [this] at hl2; simp at hl2
                  | some y => obtain ⟨q6, rfl, _⟩ := f4 y rfl; exact ⟨q6, rfl⟩
                subst e6
                have hc := (O7.out.cell jj _ hd).1
                have hql := (O7.out.lt q6 rfl).2
                have y3 := (uz.out.cell (p := ⟨q6, jj * 3, none⟩) hql id).trans hc
                generalize L[jj] = dd at *
                obtain ⟨dn, dh, dl⟩ := dd
                dsimp only at y3 hct
                generalize cnt (L.take jj) (kk : Int) = cq at *
                have HCT := hide hct
                clear hct hc hd
                by_cases hdk : dn = (kk : Int)
                · have HC : Hid (cnt (L.take (jj + 1)) (kk : Int) = cq + 1) := by show _ = _; rw [HCT.out, if_pos hdk]
                  subst hdk
                  go_wp2
                  go_round
                  case rel => exact ⟨jj + 1, by go_num, by omega, by rw [HC.out]; go_num, uz⟩
                  case measure => simp [intOf]; omega
                · have HC : Hid (cnt (L.take (jj + 1)) (kk : Int) = cq) := by show _ = _; rw [HCT.out, if_neg hdk]; rfl
                  go_wp2
                  go_round
                  case rel => exact ⟨jj + 1, by go_num, by omega, by rw [HC.out], uz⟩
                  case measure => simp [intOf]; omega
              · obtain rfl : jj = L.length := by omega
                have y4 := (uz.out.cell (p := ⟨bc, kk, none⟩) N7.out.oc.lt.2 id).trans ((N7.out).c1 hlt).1
                have hce := HCE.out
                go_wp2
                go_round
                case rel => exact ⟨kk + 1, by go_num, by omega, uz⟩
                case measure => simp [intOf]; omega
          · have ekk : n = kk := by omega
            subst ekk
            have uB : Hid (Below w7.heap.size w7 wr) := uq.out.below (Nat.le_refl _) (fun _ => False.elim)
            have N8 := hide (N7.out.bel uB.out)
            clear N7 uq uB O7
            cases lz
            · go_wp2
              go_ret
              exact ⟨rfl, N8.out.hb⟩
            · obtain ⟨b, hb, y0, y1⟩ := N8.out.w1 n1
              have r0 := N8.out.I.r0
              have r1 := N8.out.I.r1
              cases b
              · have hg9 := hide (N8.out.fresh n1 hb)
                have N9 := N8
                clear N8
                have hR1 : 1 ≤ R := by omega
                obtain ⟨m0, m1, m2⟩ := N9.out.made_le n1
                have LF := hide (lazy_fr N9.out.I n1 n7 (by omega) _ m0 m1 hg9.out)
                have GP := hide (gdraw_any 0 N9.out.D n1 m2 (by omega))
                have BW := hide N9.out.hb
                have lo := N9.out.lo
                have WB := N9.out.WB
                have lp := lo.2.2 0 n1
                have lg := lo.1
                have L3 := hide (N9.out.D.lo3 (k := 0) lp lg WB)
                clear N9 hg9 lo m2
                generalize made R (rd 0) (md 0) = mm at *
                go_wp2_with fail
                refine GP.out.mono ?_
                rintro e w9 ⟨rfl, vd9, D9, hv9, u9⟩
                dsimp only
                have B9 := hide (bafter BW.out u9 (Nat.le_refl _) L3.out)
                have hs9 : B ≤ w9.heap.size := D9.hB
                have pB := (D9.gp 0 n1).2.2.2
                have gB := D9.gB.1
                have bx := (Below.refl _ w9).alloc (Nat.le_refl _) (.cells #[.int .u64 R, .int .u64 (mm + 1)] 42)
                have GW := hide (gwipe_any 0 (D9.bel bx) n1)
                have nn : Hid (¬ (w9.heap.size = p 0 ∨ w9.heap.size = g ∨ vd9.ownBlock = some w9.heap.size)) := by
                  rintro (e | e | e)
                  · omega
                  · omega
                  · have := (D9.D.lt _ e).2; omega
                clear D9 hv9 u9 GP BW L3 y0 y1
                go_wp2_with fail
                refine GW.out.mono ?_
                rintro e w10 ⟨rfl, D10, u10⟩
                dsimp only
                have ca10 : w10.cell? ⟨w9.heap.size, 0, none⟩ = some (.int .u64 R) := (u10.cell (p := ⟨w9.heap.size, 0, none⟩) (by simp) (fun e => nn.out (.inl e))).trans (by go_simp)
                have sz10 : w9.heap.size < w10.heap.size := by have := u10.size; simp at this; omega
                have B10 := hide (bafter (bafter B9.out (S := fun _ => False) (Upd.of_below bx) (Nat.le_refl _) (fun _ => False.elim)) u10 (Nat.le_refl _) (fun i e => by have e : i = p 0 := e; rw [e]; exact lp))
                obtain ⟨rd', md', e1, e2, D10⟩ : ∃ rd' md' : Nat → Int, rd' 0 = 0 ∧ md' 0 = 0 ∧ GD w10 B g c sg n cp p vd9 R rd' md' (L ++ [(((0 : Nat) : Int), R, mm + 1)]) := ⟨_, _, if_pos rfl, if_pos rfl, D10⟩
                have G2 := gdraw_any 0 D10 n1 (by rw [e1, e2, made00 hR1]; omega) (by simp; omega)
                rw [e1, e2, made00 hR1] at G2
                have L4 := hide (D10.lo3 (k := 0) lp lg WB)
                have GG := hide G2
                clear G2 D10 u10 e1 e2 GW B9 bx
                have CA10 := hide ca10
                clear ca10
                go_wp2_with fail
                refine GG.out.mono ?_
                rintro e w11 ⟨rfl, vd11, D11, hv11, u11⟩
                dsimp only
                obtain ⟨L2, hL2⟩ : ∃ L2, (L ++ [(((0 : Nat) : Int), R, mm + 1)]) ++ [(((0 : Nat) : Int), R, 0 + 1)] = L2 := ⟨_, rfl⟩
                have HL2 : Hid (L2.length = L.length + 2) := by show _ = _; rw [← hL2]; simp
                rw [hL2] at D11
                have LF2 : Hid (Fr.fr (tos L2) = (false, (L.length : Int) + 1) ∧ ∀ e ∈ tos L2, e.fits) := by rw [← hL2]; exact LF.out
                clear hL2 LF
                have ca11 := hide ((u11.cell (p := ⟨w9.heap.size, 0, none⟩) sz10 nn.out).trans CA10.out)
                have B11 := hide (bafter B10.out u11 (Nat.le_refl _) L4.out)
                have sz11 : w9.heap.size < w11.heap.size := by have := u11.size; omega
                have bx := (Below.refl _ w11).alloc (Nat.le_refl _) (.cells #[.int .u64 R, .int .u64 (0 + 1)] 42)
                have D12 := D11.bel bx
                have DR := hide (drawn_all D12.G D12.D D12.dn (by have := HL2.out; omega))
                clear D11 D12 u11 hv11 GG L4 B10 CA10
                have BX := hide bx
                clear bx
                go_wp2_with fail
                refine DR.out.mono ?_
                rintro e w12 ⟨v12, rfl, o12, b12⟩
                dsimp only
                obtain ⟨a12, c12, rfl, g1, g2, g3, g4⟩ := o12.form
                have F := Fr.fresh_any _ a12 c12 w12 (by rw [tos_len]; exact o12.y.sl' Fr.kT) LF2.out.2 (by rw [tos_len]; have := HL2.out; omega)
                rw [tos_len, LF2.out.1] at F
                have FF := hide F
                clear F DR o12 g3 g4
                have B12 := hide b12
                clear b12
                go_wp2_with fail
                refine FF.out.mono ?_
                rintro e w13 ⟨rfl, b13⟩
                dsimp only
                have s12 := B12.out.size
                have s13 := b13.size
                simp at s12
                have k0 : w13.cell? ⟨w9.heap.size, 0, none⟩ = some (.int .u64 R) := ((b13.cell (p := ⟨w9.heap.size, 0, none⟩) (by show w9.heap.size < _; omega)).trans (B12.out.cell (p := ⟨w9.heap.size, 0, none⟩) (by show w9.heap.size < _; simp; omega))).trans ((BX.out.cell (p := ⟨w9.heap.size, 0, none⟩) sz11).trans ca11.out)
                have k1 : w13.cell? ⟨w11.heap.size, 0, none⟩ = some (.int .u64 R) := ((b13.cell (p := ⟨w11.heap.size, 0, none⟩) (by show w11.heap.size < _; omega)).trans (B12.out.cell (p := ⟨w11.heap.size, 0, none⟩) (by show w11.heap.size < _; simp))).trans (by go_simp)
                have k2 : w13.cell? ⟨w11.heap.size, 1, none⟩ = some (.int .u64 (0 + 1)) := ((b13.cell (p := ⟨w11.heap.size, 1, none⟩) (by show w11.heap.size < _; omega)).trans (B12.out.cell (p := ⟨w11.heap.size, 1, none⟩) (by show w11.heap.size < _; simp))).trans (by go_simp)
                have B13 := hide (bafter (bafter (bafter B11.out (S := fun _ => False) (Upd.of_below BX.out) (Nat.le_refl _) (fun _ => False.elim)) (S := fun _ => False) (Upd.of_below B12.out) (Nat.le_refl _) (fun _ => False.elim)) (S := fun _ => False) (Upd.of_below b13) (Nat.le_refl _) (fun _ => False.elim))
                clear FF B12 BX B11 ca11 b13
                go_wp2
                go_ret
                exact ⟨rfl, B13.out⟩
              · have GP0 := hide (gpass_any 1 N8.out.D (by omega) (by omega))
                have hg9 := hide (N8.out.fresh1 n1 hb)
                go_wp2_with fail
                refine GP0.out.mono ?_
                rintro e w5 ⟨rfl, D5, u5⟩
                dsimp only
                have N9 := hide (N8.out.pass 1 (by omega) (by omega) (by omega) D5 u5)
                clear N8 D5 u5 GP0
                have r0' : at_ ≤ R + 1 := by omega
                clear r0 r1
                generalize R + 1 = R1 at *
                have hR1 : 1 ≤ R1 := by omega
                obtain ⟨m0, m1, m2⟩ := N9.out.made_le n1
                have LF := hide (lazy_fr N9.out.I n1 n7 (by omega) _ m0 m1 hg9.out)
                have GP := hide (gdraw_any 0 N9.out.D n1 m2 (by omega))
                have BW := hide N9.out.hb
                have lo := N9.out.lo
                have WB := N9.out.WB
                have lp := lo.2.2 0 n1
                have lg := lo.1
                have L3 := hide (N9.out.D.lo3 (k := 0) lp lg WB)
                clear N9 hg9 lo m2
                generalize made R1 (rd 0) (md 0) = mm at *
                go_wp2_with fail
                refine GP.out.mono ?_
                rintro e w9 ⟨rfl, vd9, D9, hv9, u9⟩
                dsimp only
                have B9 := hide (bafter BW.out u9 (Nat.le_refl _) L3.out)
                have hs9 : B ≤ w9.heap.size := D9.hB
                have pB := (D9.gp 0 n1).2.2.2
                have gB := D9.gB.1
                have bx := (Below.refl _ w9).alloc (Nat.le_refl _) (.cells #[.int .u64 R1, .int .u64 (mm + 1)] 42)
                have GW := hide (gwipe_any 0 (D9.bel bx) n1)
                have nn : Hid (¬ (w9.heap.size = p 0 ∨ w9.heap.size = g ∨ vd9.ownBlock = some w9.heap.size)) := by
                  rintro (e | e | e)
                  · omega
                  · omega
                  · have := (D9.D.lt _ e).2; omega
                clear D9 hv9 u9 GP BW L3 y0 y1
                go_wp2_with fail
                refine GW.out.mono ?_
                rintro e w10 ⟨rfl, D10, u10⟩
                dsimp only
                have ca10 : w10.cell? ⟨w9.heap.size, 0, none⟩ = some (.int .u64 R1) := (u10.cell (p := ⟨w9.heap.size, 0, none⟩) (by simp) (fun e => nn.out (.inl e))).trans (by go_simp)
                have sz10 : w9.heap.size < w10.heap.size := by have := u10.size; simp at this; omega
                have B10 := hide (bafter (bafter B9.out (S := fun _ => False) (Upd.of_below bx) (Nat.le_refl _) (fun _ => False.elim)) u10 (Nat.le_refl _) (fun i e => by have e : i = p 0 := e; rw [e]; exact lp))
                obtain ⟨rd', md', e1, e2, D10⟩ : ∃ rd' md' : Nat → Int, rd' 0 = 0 ∧ md' 0 = 0 ∧ GD w10 B g c sg n cp p vd9 R1 rd' md' (L ++ [(((0 : Nat) : Int), R1, mm + 1)]) := ⟨_, _, if_pos rfl, if_pos rfl, D10⟩
                have G2 := gdraw_any 0 D10 n1 (by rw [e1, e2, made00 hR1]; omega) (by simp; omega)
                rw [e1, e2, made00 hR1] at G2
                have L4 := hide (D10.lo3 (k := 0) lp lg WB)
                have GG := hide G2
                clear G2 D10 u10 e1 e2 GW B9 bx
                have CA10 := hide ca10
                clear ca10
                go_wp2_with fail
                refine GG.out.mono ?_
                rintro e w11 ⟨rfl, vd11, D11, hv11, u11⟩
                dsimp only
                obtain ⟨L2, hL2⟩ : ∃ L2, (L ++ [(((0 : Nat) : Int), R1, mm + 1)]) ++ [(((0 : Nat) : Int), R1, 0 + 1)] = L2 := ⟨_, rfl⟩
                have HL2 : Hid (L2.length = L.length + 2) := by show _ = _; rw [← hL2]; simp
                rw [hL2] at D11
                have LF2 : Hid (Fr.fr (tos L2) = (false, (L.length : Int) + 1) ∧ ∀ e ∈ tos L2, e.fits) := by rw [← hL2]; exact LF.out
                clear hL2 LF
                have ca11 := hide ((u11.cell (p := ⟨w9.heap.size, 0, none⟩) sz10 nn.out).trans CA10.out)
                have B11 := hide (bafter B10.out u11 (Nat.le_refl _) L4.out)
                have sz11 : w9.heap.size < w11.heap.size := by have := u11.size; omega
                have bx := (Below.refl _ w11).alloc (Nat.le_refl _) (.cells #[.int .u64 R1, .int .u64 (0 + 1)] 42)
                have D12 := D11.bel bx
                have DR := hide (drawn_all D12.G D12.D D12.dn (by have := HL2.out; omega))
                clear D11 D12 u11 hv11 GG L4 B10 CA10
                have BX := hide bx
                clear bx
                go_wp2_with fail
                refine DR.out.mono ?_
                rintro e w12 ⟨v12, rfl, o12, b12⟩
                dsimp only
                obtain ⟨a12, c12, rfl, g1, g2, g3, g4⟩ := o12.form
                have F := Fr.fresh_any _ a12 c12 w12 (by rw [tos_len]; exact o12.y.sl' Fr.kT) LF2.out.2 (by rw [tos_len]; have := HL2.out; omega)
                rw [tos_len, LF2.out.1] at F
                have FF := hide F
                clear F DR o12 g3 g4
                have B12 := hide b12
                clear b12
                go_wp2_with fail
                refine FF.out.mono ?_
                rintro e w13 ⟨rfl, b13⟩
                dsimp only
                have s12 := B12.out.size
                have s13 := b13.size
                simp at s12
                have k0 : w13.cell? ⟨w9.heap.size, 0, none⟩ = some (.int .u64 R1) := ((b13.cell (p := ⟨w9.heap.size, 0, none⟩) (by show w9.heap.size < _; omega)).trans (B12.out.cell (p := ⟨w9.heap.size, 0, none⟩) (by show w9.heap.size < _; simp; omega))).trans ((BX.out.cell (p := ⟨w9.heap.size, 0, none⟩) sz11).trans ca11.out)
                have k1 : w13.cell? ⟨w11.heap.size, 0, none⟩ = some (.int .u64 R1) := ((b13.cell (p := ⟨w11.heap.size, 0, none⟩) (by show w11.heap.size < _; omega)).trans (B12.out.cell (p := ⟨w11.heap.size, 0, none⟩) (by show w11.heap.size < _; simp))).trans (by go_simp)
                have k2 : w13.cell? ⟨w11.heap.size, 1, none⟩ = some (.int .u64 (0 + 1)) := ((b13.cell (p := ⟨w11.heap.size, 1, none⟩) (by show w11.heap.size < _; omega)).trans (B12.out.cell (p := ⟨w11.heap.size, 1, none⟩) (by show w11.heap.size < _; simp))).trans (by go_simp)
                have B13 := hide (bafter (bafter (bafter B11.out (S := fun _ => False) (Upd.of_below BX.out) (Nat.le_refl _) (fun _ => False.elim)) (S := fun _ => False) (Upd.of_below B12.out) (Nat.le_refl _) (fun _ => False.elim)) (S := fun _ => False) (Upd.of_below b13) (Nat.le_refl _) (fun _ => False.elim))
                clear FF B12 BX B11 ca11 b13
                go_wp2
                go_ret
                exact ⟨rfl, B13.out⟩

end Go.Proofs.Ythggipeclcbfeaa
