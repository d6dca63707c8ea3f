/- Memory of its own; clones. -/
import Derived.Test.YtgealkflfmeicaaDoorE25
import Derived.Shelf.Slices.Clone
namespace Go.Proofs.YtgealkflfmeicaaDoor
set_option linter.unusedVariables false
set_option linter.unusedSimpArgs false
open Go.ChangeShapes Go.WideShapes Go.ChangeAt Go.RowKit
theorem info2 : (Tryd.prog.info? 2).map (fun i => (i.zero, i.size, i.bytes)) = some (some (.int .i64 0), 1, 8) := by kernel_rfl
theorem info25 : (Tryd.prog.info? 25).map (fun i => (i.zero, i.size, i.bytes)) = some (some (.agg #[.int .u8 0, .string ⟨#[]⟩, .slice none 0 0, .slice none 0 0]), 4, 72) := by kernel_rfl
/-- Numbers in memory of their own. -/
structure OwnN (w : World) (lo hi : Nat) (ao : Option Addr) (n c : Nat) (l : List Int) : Prop where
  len : l.length = n
  le : n ≤ c
  top : c ≤ 9223372036854775807
  bare : ao = none → n = 0 ∧ c = 0
  rng : ∀ i (h : i < l.length), -9223372036854775808 ≤ l[i] ∧ l[i] ≤ 9223372036854775807
  here : 0 < n → ∃ b cur, ao = some ⟨b, 0, none⟩ ∧ lo ≤ b ∧ b < hi ∧ w.heap[b]? = some (.cells cur 2 (0, 0)) ∧ ∀ i (h : i < l.length), cur[i]? = some (.int .i64 l[i])
theorem OwnN.keep {w w' : World} {lo hi : Nat} {ao : Option Addr} {n c : Nat} {l : List Int} (h : OwnN w lo hi ao n c l) (k : ∀ q, lo ≤ q → q < hi → w'.heap[q]? = w.heap[q]?) : OwnN w' lo hi ao n c l :=
  ⟨h.len, h.le, h.top, h.bare, h.rng, fun h0 => by
    obtain ⟨b, cur, e, h1, h2, h3, h4⟩ := h.here h0
    exact ⟨b, cur, e, h1, h2, (k b h1 h2).trans h3, h4⟩⟩
theorem OwnN.mono {w : World} {lo hi lo' hi' : Nat} {ao : Option Addr} {n c : Nat} {l : List Int} (h : OwnN w lo hi ao n c l) (k1 : lo' ≤ lo) (k2 : hi ≤ hi') : OwnN w lo' hi' ao n c l :=
  ⟨h.len, h.le, h.top, h.bare, h.rng, fun h0 => by
    obtain ⟨b, cur, e, h1, h2, h3, h4⟩ := h.here h0
    exact ⟨b, cur, e, Nat.le_trans k1 h1, Nat.lt_of_lt_of_le h2 k2, h3, h4⟩⟩
theorem OwnN.at_ {w : World} {lo hi : Nat} {ao : Option Addr} {n c : Nat} {l : List Int} (h : OwnN w lo hi ao n c l) : NAt w ao n c l :=
  ⟨h.len, h.le, h.top, h.bare, fun h0 => by
    obtain ⟨b, cur, e, h1, h2, h3, h4⟩ := h.here h0
    exact ⟨b, 0, e, fun i hi => ⟨by rw [cell_blk h3, Nat.zero_add]; exact h4 i hi, h.rng i hi⟩⟩⟩
/-- The row of arguments, in a block. -/
structure OwnR (w : World) (lo hi : Nat) (ao : Option Addr) (k c : Nat) (g : Nat) (cur : Array Value) : Prop where
  le : k ≤ c
  top : c ≤ 9223372036854775807
  bare : ao = none → k = 0 ∧ c = 0
  here : 0 < k → ao = some ⟨g, 0, none⟩ ∧ lo ≤ g ∧ g < hi ∧ w.heap[g]? = some (.cells cur 25 (0, 0))
theorem OwnR.keep {w w' : World} {lo hi : Nat} {ao : Option Addr} {k c g : Nat} {cur : Array Value} (h : OwnR w lo hi ao k c g cur) (q : ∀ q, lo ≤ q → q < hi → w'.heap[q]? = w.heap[q]?) : OwnR w' lo hi ao k c g cur :=
  ⟨h.le, h.top, h.bare, fun h0 => by obtain ⟨h1, h2, h3, h4⟩ := h.here h0; exact ⟨h1, h2, h3, (q g h2 h3).trans h4⟩⟩
theorem OwnR.mono {w : World} {lo hi lo' hi' : Nat} {ao : Option Addr} {k c g : Nat} {cur : Array Value} (h : OwnR w lo hi ao k c g cur) (k1 : lo' ≤ lo) (k2 : hi ≤ hi') : OwnR w lo' hi' ao k c g cur :=
  ⟨h.le, h.top, h.bare, fun h0 => by obtain ⟨h1, h2, h3, h4⟩ := h.here h0; exact ⟨h1, Nat.le_trans k1 h2, Nat.lt_of_lt_of_le h3 k2, h4⟩⟩
/-- Four cells of a block, from a place on. -/
def Four (cur : Array Value) (i : Nat) (x0 x1 x2 x3 : Value) : Prop := cur[i * 4]? = some x0 ∧ cur[i * 4 + 1]? = some x1 ∧ cur[i * 4 + 2]? = some x2 ∧ cur[i * 4 + 3]? = some x3
/-- An expression whose memory is its own: numbers and arguments' row lie below mid, argument i from cut i to cut (i + 1). -/
def Own (w : World) : Nat → Nat → Nat → Value → Tour → Prop
  | 0, _, _, _, _ => False
  | n + 1, lo, hi, v, F => ∃ (p : Pt) (an : Option Addr) (nn nc : Nat) (aa : Option Addr) (ac g : Nat) (cur : Array Value) (Fs : List Tour) (cut : Nat → Nat), v = pv p an nn nc aa ac ∧ (0 ≤ p.op ∧ p.op ≤ 255 ∧ p.nm.size ≤ maxLen) ∧ OwnN w lo (cut 0) an nn nc p.nums ∧ OwnR w lo (cut 0) aa p.k ac g cur ∧ Fs.length = p.k ∧ F = (fun d => (p, d) :: flat Fs (d + 1)) ∧ lo ≤ cut 0 ∧ cut p.k ≤ hi ∧
      (∀ i, i < p.k → cut i ≤ cut (i + 1)) ∧ (∀ i (h : i < Fs.length), ∃ x0 x1 x2 x3, Four cur i x0 x1 x2 x3 ∧ Own w n (cut i) (cut (i + 1)) (.agg #[x0, x1, x2, x3]) Fs[i])
theorem cut_le {cut : Nat → Nat} {k : Nat} (h : ∀ i, i < k → cut i ≤ cut (i + 1)) : ∀ j, j ≤ k → ∀ i, i ≤ j → cut i ≤ cut j
  | 0, _, i, hi => by obtain rfl : i = 0 := by omega
                      exact Nat.le_refl _
  | j + 1, hj, i, hi => by
    by_cases e : i = j + 1
    · rw [e]; exact Nat.le_refl _
    · exact Nat.le_trans (cut_le h j (by omega) i (by omega)) (h j (by omega))
theorem Own.keep {w w' : World} : ∀ {n lo hi : Nat} {v : Value} {F : Tour}, Own w n lo hi v F → (∀ q, lo ≤ q → q < hi → w'.heap[q]? = w.heap[q]?) → Own w' n lo hi v F
  | 0, _, _, _, _, h, _ => h.elim
  | n + 1, lo, hi, v, F, h, k => by
    obtain ⟨p, an, nn, nc, aa, ac, g, cur, Fs, cut, e1, h1, h2, h3, e2, e3, h4, h5, h6, h7⟩ := h
    have m0 := cut_le h6 p.k (Nat.le_refl _) 0 (Nat.zero_le _)
    refine ⟨p, an, nn, nc, aa, ac, g, cur, Fs, cut, e1, h1, h2.keep (fun q a b => k q a (by omega)), h3.keep (fun q a b => k q a (by omega)), e2, e3, h4, h5, h6, fun i hi => ?_⟩
    obtain ⟨x0, x1, x2, x3, f, o⟩ := h7 i hi
    have m1 := cut_le h6 i (by omega) 0 (Nat.zero_le _)
    have m2 := cut_le h6 p.k (Nat.le_refl _) (i + 1) (by omega)
    exact ⟨x0, x1, x2, x3, f, o.keep (fun q a b => k q (by omega) (by omega))⟩
theorem Own.mono {w : World} : ∀ {n lo hi lo' hi' : Nat} {v : Value} {F : Tour}, Own w n lo hi v F → lo' ≤ lo → hi ≤ hi' → Own w n lo' hi' v F
  | 0, _, _, _, _, _, _, h, _, _ => h.elim
  | n + 1, lo, hi, lo', hi', v, F, h, k1, k2 => by
    obtain ⟨p, an, nn, nc, aa, ac, g, cur, Fs, cut, e1, h1, h2, h3, e2, e3, h4, h5, h6, h7⟩ := h
    exact ⟨p, an, nn, nc, aa, ac, g, cur, Fs, cut, e1, h1, h2.mono k1 (Nat.le_refl _), h3.mono k1 (Nat.le_refl _), e2, e3, Nat.le_trans k1 h4, Nat.le_trans h5 k2, h6, h7⟩
theorem Own.ex {w : World} : ∀ {n lo hi : Nat} {v : Value} {F : Tour}, Own w n lo hi v F → ExAt w n v F
  | 0, _, _, _, _, h => h.elim
  | n + 1, lo, hi, v, F, h => by
    obtain ⟨p, an, nn, nc, aa, ac, g, cur, Fs, cut, e1, h1, h2, h3, e2, e3, h4, h5, h6, h7⟩ := h
    refine ⟨p, an, nn, nc, aa, ac, Fs, e1, ⟨h1.1, h1.2.1, h1.2.2, h2.at_, h3.le, h3.top, h3.bare⟩, e2, e3, fun h0 => ?_⟩
    obtain ⟨ea, _, _, eb⟩ := h3.here h0
    refine ⟨g, 0, ea, fun i hi => ?_⟩
    obtain ⟨x0, x1, x2, x3, f, o⟩ := h7 i hi
    refine ⟨x0, x1, x2, x3, ?_, ?_, ?_, ?_, o.ex⟩
    · rw [cell_blk eb]; rw [Nat.zero_add]; exact f.1
    · rw [cell_blk eb]; rw [Nat.zero_add]; exact f.2.1
    · rw [cell_blk eb]; rw [Nat.zero_add]; exact f.2.2.1
    · rw [cell_blk eb]; rw [Nat.zero_add]; exact f.2.2.2
/-- A row of expressions in memory. -/
def Row (w : World) (n : Nat) (aa : Option Addr) (k : Nat) (Fs : List Tour) : Prop := 0 < k → ∃ b q, aa = some (⟨b, q, none⟩ : Addr) ∧ ∀ i (h : i < Fs.length), ∃ x0 x1 x2 x3, w.cell? ⟨b, q + i * 4, none⟩ = some x0 ∧ w.cell? ⟨b, q + i * 4 + 1, none⟩ = some x1 ∧ w.cell? ⟨b, q + i * 4 + 2, none⟩ = some x2 ∧ w.cell? ⟨b, q + i * 4 + 3, none⟩ = some x3 ∧ ExAt w n (.agg #[x0, x1, x2, x3]) Fs[i]
theorem ex_cells {w : World} {n : Nat} {x0 x1 x2 x3 : Value} {F : Tour} (h : ExAt w n (.agg #[x0, x1, x2, x3]) F) : x0.oneCell' = true ∧ x1.oneCell' = true ∧ x2.oneCell' = true ∧ x3.oneCell' = true := by
  obtain ⟨p, an, nn, nc, aa, ac, e, _⟩ := h.head
  cases e
  exact ⟨rfl, rfl, rfl, rfl⟩
/-- The values of a row. -/
theorem row_vals {w : World} {n : Nat} {a : Addr} {k : Nat} {Fs : List Tour} (hk : Fs.length = k) (h : Row w n (some a) k Fs) : ∃ vs : List Value, vs.length = k * 4 ∧ (∀ u ∈ vs, u.oneCell' = true) ∧ (∀ j u, vs[j]? = some u → w.cell? (a.add j) = some u) ∧ ∀ i (h : i < Fs.length), ∃ x0 x1 x2 x3, vs[i * 4]? = some x0 ∧ vs[i * 4 + 1]? = some x1 ∧ vs[i * 4 + 2]? = some x2 ∧ vs[i * 4 + 3]? = some x3 ∧ ExAt w n (.agg #[x0, x1, x2, x3]) Fs[i] := by
  by_cases h0 : k = 0
  · subst h0
    exact ⟨[], by simp, (fun u hu => by cases hu), (fun j u hu => by simp at hu), (fun i hi => by omega)⟩
  · obtain ⟨b, q, e, hc⟩ := h (by omega)
    cases e
    have each : ∀ j : Nat, ∃ u : Value, ∀ hj : j < k * 4, w.cell? ⟨b, q + j, none⟩ = some u ∧ u.oneCell' = true := by
      intro j
      by_cases hj : j < k * 4
      · obtain ⟨x0, x1, x2, x3, g0, g1, g2, g3, hx⟩ := hc (j / 4) (by omega)
        have oc := ex_cells hx
        have hm : j % 4 < 4 := Nat.mod_lt _ (by omega)
        rcases (by omega : j % 4 = 0 ∨ j % 4 = 1 ∨ j % 4 = 2 ∨ j % 4 = 3) with e | e | e | e
        · rw [show j / 4 * 4 = j by omega] at g0; exact ⟨_, fun _ => ⟨g0, oc.1⟩⟩
        · rw [Nat.add_assoc, show j / 4 * 4 + 1 = j by omega] at g1; exact ⟨_, fun _ => ⟨g1, oc.2.1⟩⟩
        · rw [Nat.add_assoc, show j / 4 * 4 + 2 = j by omega] at g2; exact ⟨_, fun _ => ⟨g2, oc.2.2.1⟩⟩
        · rw [Nat.add_assoc, show j / 4 * 4 + 3 = j by omega] at g3; exact ⟨_, fun _ => ⟨g3, oc.2.2.2⟩⟩
      · exact ⟨.slice none 0 0, fun q => absurd q hj⟩
    obtain ⟨U, hU⟩ := Classical.axiomOfChoice each
    have at_ : ∀ j, j < k * 4 → ((List.range (k * 4)).map U)[j]? = some (U j) := fun j hj => by simp [hj]
    refine ⟨(List.range (k * 4)).map U, by simp, ?_, ?_, ?_⟩
    · intro u hu
      obtain ⟨j, hj, rfl⟩ := List.mem_map.1 hu
      exact (hU j (List.mem_range.1 hj)).2
    · intro j u hu
      have hj : j < k * 4 := by
        have := (List.getElem?_eq_some_iff.1 hu).1
        simpa using this
      rw [at_ j hj] at hu
      have a : (Addr.add ⟨b, q, none⟩ j) = ⟨b, q + j, none⟩ := by simp only [Addr.add]; split <;> simp_all
      rw [a, (hU j hj).1]; exact hu
    · intro i hi
      obtain ⟨x0, x1, x2, x3, g0, g1, g2, g3, hx⟩ := hc i hi
      refine ⟨x0, x1, x2, x3, ?_, ?_, ?_, ?_, hx⟩
      · rw [at_ _ (by omega), ← (hU (i * 4) (by omega)).1, g0]
      · rw [at_ _ (by omega), ← (hU (i * 4 + 1) (by omega)).1, ← Nat.add_assoc, g1]
      · rw [at_ _ (by omega), ← (hU (i * 4 + 2) (by omega)).1, ← Nat.add_assoc, g2]
      · rw [at_ _ (by omega), ← (hU (i * 4 + 3) (by omega)).1, ← Nat.add_assoc, g3]
theorem nat_vals {w : World} {a : Addr} {n c : Nat} {l : List Int} (h : NAt w (some a) n c l) : ∀ j u, (l.map (Value.int .i64))[j]? = some u → w.cell? (a.add j) = some u := by
  intro j u hu
  rw [List.getElem?_map] at hu
  have hj : j < l.length := by
    by_cases z : j < l.length
    · exact z
    · rw [List.getElem?_eq_none (by omega)] at hu; cases hu
  obtain ⟨b, p, e, hc⟩ := h.here (by have := h.len; omega)
  cases e
  rw [List.getElem?_eq_getElem hj] at hu
  have a : (Addr.add ⟨b, p, none⟩ j) = ⟨b, p + j, none⟩ := by simp only [Addr.add]; split <;> simp_all
  rw [a, (hc j hj).1]; exact hu
set_option maxHeartbeats 1000000 in
theorem cloneN_any (ao : Option Addr) (n c : Nat) (l : List Int) (hn : n ≤ 1048576) (w0 w : World) (hl : NAt w0 ao n c l) (hk : Below w0.heap.size w0 w) :
    Calls Tryd.prog 37 #[.slice ao n c] w fun e w' => ∃ ao' c', e = .returned (.slice ao' n c') ∧ OwnN w' w.heap.size w'.heap.size ao' n c' l ∧ Below w.heap.size w w' := by
  obtain ⟨i0, hi, hz0, hz1, hz2⟩ := info_parts info2
  have q22 : ∀ (w : World) (a : Option Addr) (n c n' c' : Nat), (binOp .eql 22 (.slice a n c) (.slice none n' c')).run Tryd.prog w = .ok (.bool a.isNone) w := fun w a n c n' c' => Lib.run_eql_slice_nil w _ _ a n c n' c' Tryd.underlying22
  have LN := hl.len
  cases ao with
  | none =>
    obtain ⟨rfl, rfl⟩ := hl.bare rfl
    obtain rfl : l = [] := List.eq_nil_of_length_eq_zero (by omega)
    clear hl
    go_enter Tryd.func37, Tryd.ntmps37
    go_wp2
    go_returns
    exact ⟨none, 0, rfl, ⟨rfl, Nat.le_refl _, Nat.zero_le _, fun _ => ⟨rfl, rfl⟩, fun i h => absurd h (Nat.not_lt_zero _), fun h => absurd h (Nat.lt_irrefl _)⟩, Below.refl _ _⟩
  | some a =>
    have HN := Lib.hid (fun j u h => cell_keep (nat_vals hl j u h) hk)
    have HRG : Hid (∀ i (h : i < l.length), -9223372036854775808 ≤ l[i] ∧ l[i] ≤ 9223372036854775807) := Lib.hid (fun i h => by
      obtain ⟨b, p, _, hc⟩ := hl.here (by omega)
      exact (hc i h).2)
    clear hl
    go_enter Tryd.func37, Tryd.ntmps37
    go_wp2_with (at_builtin; refine wpList_append_own _ rfl _ _ 22 rfl w.heap.size 2 i0 (.int .i64 0) 1 8 Tryd.underlying22 hi hz0 hz1 hz2 rfl (by decide) _ _ _ rfl (World.ownsRow_made w #[] 0 (Nat.le_refl _) (Nat.zero_le _) rfl) a n c (l.map (Value.int .i64)) rfl ?qc1 ?qc2 ?qc3 ?qc4 ?qc5 ?qc6 ?_)
    case qc1 => rw [List.length_map, LN]; simp
    case qc2 => intro j u hj; exact Lib.cell?_alloc_some _ (HN.out j u hj)
    case qc3 => intro u hu; obtain ⟨x, _, rfl⟩ := List.mem_map.1 hu; rfl
    case qc4 => unfold maxLen; omega
    case qc5 => omega
    case qc6 => simp
    intro v' w1 hown hgrow hnil
    have HB := Lib.hid (((Below.refl _ w).alloc (Nat.le_refl _) _).grown hgrow (by simp) (by intro k hk; simp [Value.ownBlock] at hk; omega))
    obtain ⟨ao', c', rfl, HO⟩ : ∃ ao' c', v' = .slice ao' n c' ∧ Hid (OwnN w1 w.heap.size w1.heap.size ao' n c' l) := by
      have hown : w1.ownsRow w.heap.size 2 1 v' n (l.map (Value.int .i64)) := by simpa using hown
      have hlt := hown.lt
      rcases hown.2 with ⟨rfl, h0⟩ | ⟨g, cap, cur, rfl, h2, h3, h4, h5, h6, h7⟩
      · subst h0
        obtain rfl : l = [] := List.eq_nil_of_length_eq_zero (by omega)
        exact ⟨none, 0, rfl, Lib.hid ⟨rfl, Nat.le_refl _, Nat.zero_le _, fun _ => ⟨rfl, rfl⟩, fun i h => absurd h (Nat.not_lt_zero _), fun h => absurd h (Nat.lt_irrefl _)⟩⟩
      · refine ⟨some ⟨g, 0, none⟩, cap, rfl, Lib.hid ⟨LN, h4, by unfold maxLen at h5; omega, (fun e => by cases e), HRG.out, fun h0 => ⟨g, cur, rfl, h2, (hlt g rfl).2, h3, fun i hi => ?_⟩⟩⟩
        have e : cur[i]? = (cur.toList.take (n * 1))[i]? := by
          rw [List.getElem?_take_of_lt (by omega)]; simp
        rw [e, h7]
        simp [hi]
    go_wp2
    go_returns
    exact ⟨ao', c', rfl, HO.out, HB.out⟩
set_option maxHeartbeats 1000000 in
theorem cloneE_any (m : Nat) (ao : Option Addr) (k c : Nat) (Fs : List Tour) (hk : Fs.length = k) (hn : k ≤ 1048576) (hb : ao = none → k = 0 ∧ c = 0) (w0 w : World) (hl : Row w0 m ao k Fs) (hw : Below w0.heap.size w0 w) :
    Calls Tryd.prog 38 #[.slice ao k c] w fun e w' => ∃ ao' c' g cur, e = .returned (.slice ao' k c') ∧ OwnR w' w.heap.size w'.heap.size ao' k c' g cur ∧ (∀ i (h : i < Fs.length), ∃ x0 x1 x2 x3, Four cur i x0 x1 x2 x3 ∧ ExAt w0 m (.agg #[x0, x1, x2, x3]) Fs[i]) ∧ Below w.heap.size w w' := by
  obtain ⟨i0, hi, hz0, hz1, hz2⟩ := info_parts info25
  have q22 : ∀ (w : World) (a : Option Addr) (n c n' c' : Nat), (binOp .eql 23 (.slice a n c) (.slice none n' c')).run Tryd.prog w = .ok (.bool a.isNone) w := fun w a n c n' c' => Lib.run_eql_slice_nil w _ _ a n c n' c' Tryd.underlying23
  cases ao with
  | none =>
    obtain ⟨rfl, rfl⟩ := hb rfl
    clear hl
    go_enter Tryd.func38, Tryd.ntmps38
    go_wp2
    go_returns
    exact ⟨none, 0, rfl, ⟨0, #[], ⟨Nat.le_refl _, Nat.zero_le _, fun _ => ⟨rfl, rfl⟩, fun h => absurd h (Nat.lt_irrefl _)⟩⟩, Below.refl _ _⟩
  | some a =>
    obtain ⟨vs, v1, v2, v3, v4⟩ := row_vals hk hl
    have HN := Lib.hid (fun j u h => cell_keep (v3 j u h) hw)
    have H1 := Lib.hid v2
    have H4 := Lib.hid v4
    clear hl v2 v3 v4
    go_enter Tryd.func38, Tryd.ntmps38
    go_wp2_with (at_builtin; refine wpList_append_own _ rfl _ _ 23 rfl w.heap.size 25 i0 (.agg #[.int .u8 0, .string ⟨#[]⟩, .slice none 0 0, .slice none 0 0]) 4 72 Tryd.underlying23 hi hz0 hz1 hz2 rfl (by decide) _ _ _ rfl (World.ownsRow_made w #[] 0 (Nat.le_refl _) (Nat.zero_le _) rfl) a k c vs rfl ?qc1 ?qc2 ?qc3 ?qc4 ?qc5 ?qc6 ?_)
    case qc1 => exact v1
    case qc2 => intro j u hj; exact Lib.cell?_alloc_some _ (HN.out j u hj)
    case qc3 => exact H1.out
    case qc4 => unfold maxLen; omega
    case qc5 => omega
    case qc6 => simp
    intro v' w1 hown hgrow hnil
    have HB := Lib.hid (((Below.refl _ w).alloc (Nat.le_refl _) _).grown hgrow (by simp) (by intro k hk; simp [Value.ownBlock] at hk; omega))
    obtain ⟨ao', c', g, cur, rfl, HO⟩ : ∃ ao' c' g cur, v' = .slice ao' k c' ∧ Hid (OwnR w1 w.heap.size w1.heap.size ao' k c' g cur ∧ ∀ i (h : i < Fs.length), ∃ x0 x1 x2 x3, Four cur i x0 x1 x2 x3 ∧ ExAt w0 m (.agg #[x0, x1, x2, x3]) Fs[i]) := by
      have hown : w1.ownsRow w.heap.size 25 4 v' k vs := by simpa using hown
      have hlt := hown.lt
      rcases hown.2 with ⟨rfl, h0⟩ | ⟨g, cap, cur, rfl, h2, h3, h4, h5, h6, h7⟩
      · subst h0
        exact ⟨none, 0, 0, #[], rfl, Lib.hid ⟨⟨Nat.le_refl _, Nat.zero_le _, fun _ => ⟨rfl, rfl⟩, fun h => absurd h (Nat.lt_irrefl _)⟩, fun i h => by omega⟩⟩
      · refine ⟨some ⟨g, 0, none⟩, cap, g, cur, rfl, Lib.hid ⟨⟨h4, by unfold maxLen at h5; omega, (fun e => by cases e), fun h0 => ⟨rfl, h2, (hlt g rfl).2, h3⟩⟩, fun i hi => ?_⟩⟩
        obtain ⟨x0, x1, x2, x3, g0, g1, g2, g3, hx⟩ := H4.out i hi
        have e : ∀ j, j < k * 4 → cur[j]? = vs[j]? := fun j hj => by
          rw [← h7, List.getElem?_take_of_lt hj]; simp
        exact ⟨x0, x1, x2, x3, ⟨by rw [e _ (by omega), g0], by rw [e _ (by omega), g1], by rw [e _ (by omega), g2], by rw [e _ (by omega), g3]⟩, hx⟩
    go_wp2
    go_returns
    exact ⟨ao', c', g, cur, rfl, HO.out.1, HO.out.2, HB.out⟩
end Go.Proofs.YtgealkflfmeicaaDoor
