import Derived.Test.YtegfbebhgihcaaaNk2
namespace Go.Proofs.Ytegfbebhgihcaaa
open Go.RowKit Go.Maps
set_option linter.unusedVariables false
set_option linter.unusedSimpArgs false

/-- A row that grows by quarters: a longer one has room, too. -/
theorem quarter_le {need old : Nat} (h : old < need) : Builtin.nextslicecap need old ≤ need + need / 4 + 512 := by
  unfold Builtin.nextslicecap
  split
  · omega
  · split
    · omega
    · rw [growBy_four]
      repeat' split
      all_goals omega
theorem quarter_fits {need old by_ : Nat} (h : old < need) (h1 : by_ ≤ 4096) (hb : need * by_ ≤ 168884986026393) : Builtin.nextslicecap need old * by_ ≤ 281474976710656 := by
  have h2 := Nat.mul_le_mul_right by_ (quarter_le h)
  have h3 : (need / 4 * 4) * by_ ≤ need * by_ := Nat.mul_le_mul_right _ (Nat.div_mul_le_self need 4)
  have h4 : need / 4 * 4 * by_ = 4 * (need / 4 * by_) := by rw [Nat.mul_comm (need / 4) 4, Nat.mul_assoc]
  have h5 : 512 * by_ ≤ 512 * 4096 := Nat.mul_le_mul_left _ h1
  rw [Nat.add_mul, Nat.add_mul] at h2
  omega
variable {α : Type} {Y : Lay α}
set_option maxRecDepth 100000 in
theorem grow_row (K : Y.Ok) (w : World) {zv : Value} (hzs : zv.cells.size = Y.k) (B : Nat) (hB : B ≤ w.heap.size) (l news : List α) (m old : Nat) (hn : news.length = m) (h63 : l.length + m ≤ maxLen) :
    OwnY Y B (w.drew.alloc (.cells ((fl Y l).toArray ++ (fl Y news).toArray ++ Builtin.zeroCells zv.cells (grownCap w (l.length + m) old Y.T - (l.length + m))) Y.T)) (.slice (some ⟨w.heap.size, 0, none⟩) (l.length + m) (grownCap w (l.length + m) old Y.T)) (l ++ news) := by
  have hge := grownCap_ge w (l.length + m) old Y.T
  have hcm : grownCap w (l.length + m) old Y.T ≤ maxLen := grownCap_le_maxLen w (l.length + m) old Y.T h63
  have hlen : (fl Y l ++ fl Y news).length = (l.length + m) * Y.k := by rw [List.length_append, fl_length K, fl_length K, hn, Nat.add_mul]
  refine ⟨by rw [fl_length K], .inr ⟨w.heap.size, _, _, by rw [List.length_append, hn], hB, heap_alloc_new w.drew _, by rw [List.length_append, hn]; exact hge, hcm, ?_, ?_⟩⟩
  · simp only [Array.size_append, List.size_toArray, size_zeroCells, hzs, fl_length K, hn, ← Nat.add_mul]
    congr 1
    omega
  · simp only [Array.toList_append, List.append_assoc]
    rw [List.length_append, hn, fl_append, ← hlen]
    rw [← List.append_assoc]
    exact List.take_left
set_option maxRecDepth 100000 in
/-- 'append' to a row of one's own, as far as it has room. -/
theorem run_appY2 (K : Y.Ok) (h4 : Y.by_ ≤ 4096) (w : World) (ty : TypeId) (B : Nat) (l : List α) (v : Value) (ad : Option Addr) (m c : Nat) (news : List α) (hh : SlY Y w ad m c news) (hown : OwnY Y B w v l) (hB : B ≤ w.heap.size) (hm : l.length + m ≤ maxLen) (hb : (l.length + m) * Y.by_ ≤ 168884986026393) :
    ∃ v' w', (Builtin.append_ #[Y.ST, Y.ST] ty #[v, .slice ad m c]).run Try.prog w = .ok v' w' ∧ OwnY Y B w' v' (l ++ news) ∧ w.grownBy w' v.ownBlock ∧ (v'.ownBlock = v.ownBlock ∨ ∃ k, v'.ownBlock = some k ∧ w.heap.size ≤ k) := by
  obtain ⟨zv, hinfo, hzc⟩ := K.info
  obtain ⟨i0, hi, hz0, hz1, hz2⟩ := info_parts hinfo
  have hzs : zv.cells.size = Y.k := by rw [hzc, List.size_toArray, K.len]
  have hn := hh.len
  cases ad with
  | none =>
    obtain ⟨rfl, rfl⟩ := hh.nil rfl
    obtain rfl : news = [] := List.eq_nil_of_length_eq_zero hn
    refine ⟨v, w, ?_, by rw [List.append_nil]; exact hown, World.grownBy.refl _ _, .inl rfl⟩
    exact run_append_owned_none (P := Try.prog) (w := w) B Y.ST ty Y.T i0 Y.k K.und hi v l.length (fl Y l) hown
  | some y =>
    have hnews : ∀ j u, (fl Y news)[j]? = some u → w.cell? (y.add j) = some u := fun j u hu => by
      rcases hh.at_ y rfl with e | ⟨q, o, rfl, _, hl⟩
      · subst e; cases hu
      · rw [Addr.add_lit]; exact hl.flat K j u hu
    have hlen : (fl Y news).length = m * i0.size := by rw [fl_length K, hn, hz1]
    have h63 : ((l.length + m : Nat) : Int) ≤ 9223372036854775807 := by unfold maxLen at hm; omega
    rcases hown.2 with ⟨rfl, h0⟩ | ⟨g, cap, cur, rfl, hbg, hg, hnc, hcm, hcs, htake⟩
    · obtain rfl : l = [] := List.eq_nil_of_length_eq_zero h0
      by_cases hm0 : m = 0
      · subst hm0
        obtain rfl : news = [] := List.eq_nil_of_length_eq_zero hn
        obtain ⟨v', w', k1, k2, k3, k4⟩ := run_appY K w ty B [] (.slice none 0 0) (some y) 0 c [] hh hown hB hm (by simp)
        exact ⟨v', w', k1, k2, k3, k4⟩
      · have hr := run_append_nil (P := Try.prog) w Y.ST ty Y.T i0 zv K.und hi hz0 y m c (fl Y news) hlen hnews (by omega) (by simp at h63; exact h63) (by rw [hz2]; simp only [List.length_nil, Nat.zero_add] at hb; omega)
        have hg := grow_row K w hzs B hB [] news m 0 hn hm
        simp only [List.length_nil, Nat.zero_add, List.nil_append, fl, Array.empty_append] at hg
        refine ⟨_, _, hr, hg, ⟨rfl, rfl, rfl, by simp, fun k hk _ => heap_alloc_old w.drew _ hk⟩, .inr ⟨_, rfl, Nat.le_refl _⟩⟩
    · by_cases hroom : l.length + m ≤ cap
      · have hfit : l.length * i0.size + (fl Y news).length ≤ cur.size := by rw [hcs, hz1, hlen, hz1, ← Nat.add_mul]; exact Nat.mul_le_mul_right _ hroom
        have hr := run_append_room (P := Try.prog) w Y.ST ty Y.T i0 K.und hi g l.length cap cur hg y m c (fl Y news) hlen hnews (fl_one K news) hroom hfit
        refine ⟨_, _, hr, ⟨by rw [fl_length K], .inr ⟨g, cap, _, by rw [List.length_append, hn], hbg, setRow_heap w g cur _ Y.T _ hg, by rw [List.length_append, hn]; exact hroom, hcm, ?_, ?_⟩⟩, ⟨rfl, rfl, rfl, by simp, fun k _ hk => setRow_other w g k _ (fun e => hk (by simp [Value.ownBlock, e]))⟩, .inl rfl⟩
        · simp only [List.size_toArray, List.length_append, List.length_take, List.length_drop, Array.length_toList]
          omega
        · have e1 : (fl Y l ++ fl Y news).length = (l ++ news).length * Y.k := by rw [← fl_append, fl_length K]
          rw [hz1, htake, fl_append, ← e1]
          exact List.take_left
      · have holds : ∀ j u, (fl Y l)[j]? = some u → w.cell? ((⟨g, 0, none⟩ : Addr).add j) = some u := World.ownsRow.cells hown (g := g) rfl
        have hr := run_append_grow (P := Try.prog) w Y.ST ty Y.T i0 zv K.und hi hz0 ⟨g, 0, none⟩ l.length cap (fl Y l) (by rw [hz1]; exact fl_length K l) holds y m c (fl Y news) hlen hnews (by omega) (by omega) (quarter_fits (by omega) (by rw [hz2]; exact h4) (by rw [hz2]; exact hb))
        exact ⟨_, _, hr, grow_row K w hzs B hB l news m cap hn hm, ⟨rfl, rfl, rfl, by simp, fun k hk _ => heap_alloc_old w.drew _ hk⟩, .inr ⟨_, rfl, Nat.le_refl _⟩⟩
theorem appY2 (K : Y.Ok) (h4 : Y.by_ ≤ 4096) (w : World) {ops : Array Oper} {rest : List Oper} {o : Oper} {a : Act} {Q : Exit → Act → World → Prop} (hgd : o.guard = none) (s x : Operand)
    (ho : o.op = .call { callee := .builtin .append, args := #[s, x], argTypes := #[Y.ST, Y.ST] }) (B : Nat) (l : List α) (v : Value) (hs : a.eval s = v)
    (ad : Option Addr) (m c : Nat) (hx : a.eval x = .slice ad m c) (news : List α) (hh : SlY Y w ad m c news) (hown : OwnY Y B w v l) (hB : B ≤ w.heap.size) (hm : l.length + m ≤ maxLen) (hb : (l.length + m) * Y.by_ ≤ 168884986026393)
    (hk : ∀ v' w', OwnY Y B w' v' (l ++ news) → w.grownBy w' v.ownBlock → (v'.ownBlock = v.ownBlock ∨ ∃ k, v'.ownBlock = some k ∧ w.heap.size ≤ k) → wpList Try.prog ops Q rest (a.put o.dst v') w') : wpList Try.prog ops Q (o :: rest) a w := by
  refine wpList_plain hgd fun K' hK' => ?_
  obtain ⟨v', w', hr, h2, h3, h4⟩ := run_appY2 K h4 w o.type B l v ad m c news hh hown hB hm hb
  unfold Oper.wp execOp
  simp only [ho, resolve, invoke, builtin, Sem.run_bind, Sem.run_pure, Result.andThen_ok, List.map_toArray, List.map_cons, List.map_nil, hs, hx, hr]
  exact hK' _ _ (hk v' w' h2 h3 h4)
theorem stepY2 (K : Y.Ok) (h4 : Y.by_ ≤ 4096) {ops : Array Oper} {o : Oper} {a : Act} {w : World} {K' : Act → World → Prop} {Q : Exit → Act → World → Prop} {E : Prop} (hg : o.guard = none) (s x : Operand)
    (ho : o.op = .call { callee := .builtin .append, args := #[s, x], argTypes := #[Y.ST, Y.ST] }) (B : Nat) (l : List α) (v : Value) (hs : a.eval s = v)
    (ad : Option Addr) (m c : Nat) (hx : a.eval x = .slice ad m c) (news : List α) (hh : SlY Y w ad m c news) (hown : OwnY Y B w v l) (hB : B ≤ w.heap.size) (hm : l.length + m ≤ maxLen) (hb : (l.length + m) * Y.by_ ≤ 168884986026393)
    (hk : ∀ v' w', OwnY Y B w' v' (l ++ news) → w.grownBy w' v.ownBlock → (v'.ownBlock = v.ownBlock ∨ ∃ k, v'.ownBlock = some k ∧ w.heap.size ≤ k) → K' (a.put o.dst v') w') :
    if Region.wanted o (yielded ops a.tmps) = true then Oper.wp Try.prog o a w K' Q else E := by
  have hw : Region.wanted o (yielded ops a.tmps) = true := by simp [Region.wanted, hg]
  rw [if_pos hw]
  obtain ⟨v', w', hr, h2, h3, h4⟩ := run_appY2 K h4 w o.type B l v ad m c news hh hown hB hm hb
  unfold Oper.wp execOp
  simp only [ho, resolve, invoke, builtin, Sem.run_bind, Sem.run_pure, Result.andThen_ok, List.map_toArray, List.map_cons, List.map_nil, hs, hx, hr]
  exact hk v' w' h2 h3 h4

end Go.Proofs.Ytegfbebhgihcaaa
