/- Contracts: Clone. -/
import Derived.Test.YthjpnnggghfepaaS8
import Derived.Shelf.Slices.Clone
namespace Go.Proofs.Ythjpnnggghfepaa
set_option linter.unusedVariables false
set_option linter.unusedSimpArgs false
open Go.ChangeShapes Go.WideShapes Go.ChangeAt Go.RowKit
theorem sp_all {w : World} {b p n c : Nat} {l : List Sp} (h : SpAt w (some ⟨b, p, none⟩) n c l) (h0 : 0 < n) : ∀ j u, (spCells l)[j]? = some u → w.cell? ((⟨b, p, none⟩ : Addr).add j) = some u := by
  intro j u hu
  obtain ⟨b', p', e, hc⟩ := h.here h0
  cases e
  have hj : j < (spCells l).length := (List.getElem?_eq_some_iff.1 hu).1
  rw [spCells_length] at hj
  have hi : j / 2 < l.length := by omega
  have q := spCells_at l (j / 2) hi
  rw [add_off]
  rcases Nat.mod_two_eq_zero_or_one j with e | e
  · have e2 : j / 2 * 2 = j := by omega
    rw [e2] at q
    rw [q.1] at hu; cases hu
    have := (hc (j / 2) hi).1
    rwa [e2] at this
  · have e2 : j / 2 * 2 + 1 = j := by omega
    rw [e2] at q
    rw [q.2] at hu; cases hu
    have := (hc (j / 2) hi).2
    rw [Nat.add_assoc, e2] at this
    exact this
theorem sp_all' {w : World} {a : Addr} {n c : Nat} {l : List Sp} (h : SpAt w (some a) n c l) : ∀ j u, (spCells l)[j]? = some u → w.cell? (a.add j) = some u := by
  intro j u hu
  have h0 : 0 < n := by
    have hj : j < (spCells l).length := (List.getElem?_eq_some_iff.1 hu).1
    rw [spCells_length] at hj
    have := h.len
    omega
  obtain ⟨b, p, e, _⟩ := h.here h0
  cases e
  exact sp_all h h0 j u hu
set_option maxHeartbeats 1000000 in
theorem clone_any (ao : Option Addr) (n c : Nat) (l : List Sp) (hn : n ≤ 1000000) (w : World) (hl : SpAt w ao n c l) :
    Calls Try.prog 37 #[.slice ao n c] w fun e w' => ∃ v, e = .returned v ∧ w'.ownsRow w.heap.size 35 2 v n (spCells l) ∧ Below w.heap.size w w' := by
  obtain ⟨i0, hi, hz0, hz1, hz2⟩ := info_parts info35
  have q22 : ∀ (w : World) (a : Option Addr) (n c n' c' : Nat), (binOp .eql 22 (.slice a n c) (.slice none n' c')).run Try.prog w = .ok (.bool a.isNone) w := fun w a n c n' c' => Lib.run_eql_slice_nil w _ _ a n c n' c' Try.underlying22
  have LN := hl.len
  cases ao with
  | none =>
    obtain ⟨rfl, rfl⟩ := hl.bare rfl
    obtain rfl : l = [] := List.eq_nil_of_length_eq_zero (by omega)
    clear hl
    go_enter Try.func37, Try.ntmps37
    go_wp2
    go_ret
    exact ⟨_, rfl, World.ownsRow_nil _ _ _ _, Below.refl _ _⟩
  | some a =>
    have HN := Lib.hid (sp_all' hl)
    clear hl
    go_enter Try.func37, Try.ntmps37
    go_wp2_with (at_builtin; refine wpList_append_own _ rfl _ _ 22 rfl w.heap.size 35 i0 (.agg #[.int .i64 0, .int .i64 0]) 2 16 Try.underlying22 hi hz0 hz1 hz2 rfl (by decide) _ _ _ rfl (World.ownsRow_made w #[] 0 (Nat.le_refl _) (Nat.zero_le _) rfl) a n c (spCells l) rfl ?qc1 ?qc2 ?qc3 ?qc4 ?qc5 ?qc6 ?_)
    case qc1 => rw [spCells_length, LN]
    case qc2 => intro j u hj; exact Lib.cell?_alloc_some _ (HN.out j u hj)
    case qc3 => exact spCells_one l
    case qc4 => unfold maxLen; omega
    case qc5 => omega
    case qc6 => simp
    intro v' w1 hown hgrow hnil
    go_wp2
    go_ret
    exact ⟨v', rfl, by simpa using hown, ((Below.refl _ w).alloc (Nat.le_refl _) _).grown hgrow (by simp) (by intro k hk; simp [Value.ownBlock] at hk; omega)⟩
end Go.Proofs.Ythjpnnggghfepaa
