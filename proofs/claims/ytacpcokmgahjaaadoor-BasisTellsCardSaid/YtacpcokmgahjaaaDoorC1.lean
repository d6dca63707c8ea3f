/- Copies of slices of sets and of exceptions; rows of the call's own. -/
import Derived.Test.YtacpcokmgahjaaaDoorG1
namespace Go.Proofs.YtacpcokmgahjaaaDoor
set_option linter.unusedVariables false
set_option linter.unusedSimpArgs false
open Go.ChangeShapes Go.WideShapes Go.ChangeAt Go.RowKit
theorem info38 : (Tryd.prog.info? 38).map (fun i => (i.zero, i.size, i.bytes)) = some (some (.slice none 0 0), 1, 24) := by kernel_rfl
theorem info75 : (Tryd.prog.info? 75).map (fun i => (i.zero, i.size, i.bytes)) = some (some (.agg #[.int .i64 0, .slice none 0 0]), 2, 32) := by kernel_rfl
/-- The values of a slice of sets. -/
structure VsCo (w : World) (vs : List Value) (ls : List (List Sp)) : Prop where
  len : vs.length = ls.length
  at_ : ∀ i (h : i < ls.length), ∃ o k d, vs[i]? = some (.slice o k d) ∧ SpAt w o k d ls[i]
theorem VsCo.keep {w w' : World} {vs : List Value} {ls : List (List Sp)} (h : VsCo w vs ls) (k : Below w.heap.size w w') : VsCo w' vs ls :=
  ⟨h.len, fun i hi => by obtain ⟨o, m, d, h1, h2⟩ := h.at_ i hi; exact ⟨o, m, d, h1, h2.keep k⟩⟩
theorem VsCo.one {w : World} {vs : List Value} {ls : List (List Sp)} (h : VsCo w vs ls) : ∀ u ∈ vs, u.oneCell' = true := by
  intro u hu
  obtain ⟨i, hi, rfl⟩ := List.getElem_of_mem hu
  obtain ⟨o, k, d, h1, _⟩ := h.at_ i (by rw [← h.len]; exact hi)
  rw [List.getElem?_eq_getElem hi] at h1
  rw [Option.some.inj h1]; rfl
theorem co_vals {w : World} {a : Addr} {n c : Nat} {ls : List (List Sp)} (h : CoAt w (some a) n c ls) : ∃ vs, VsCo w vs ls ∧ ∀ j u, vs[j]? = some u → w.cell? (a.add j) = some u := by
  by_cases h0 : n = 0
  · obtain rfl : ls = [] := List.eq_nil_of_length_eq_zero (by rw [h.len, h0])
    exact ⟨[], ⟨rfl, fun i hi => absurd hi (Nat.not_lt_zero _)⟩, fun j u hu => by simp at hu⟩
  · obtain ⟨b, p, e, hc⟩ := h.here (by omega)
    cases e
    have each : ∀ i : Nat, ∃ u : Value, ∀ hi : i < ls.length, w.cell? ⟨b, p + i, none⟩ = some u ∧ ∃ o k d, u = .slice o k d ∧ SpAt w o k d ls[i] := by
      intro i
      by_cases hi : i < ls.length
      · obtain ⟨o, k, d, h1, h2⟩ := hc i hi
        exact ⟨_, fun _ => ⟨h1, o, k, d, rfl, h2⟩⟩
      · exact ⟨.slice none 0 0, fun q => absurd q hi⟩
    obtain ⟨U, hU⟩ := Classical.axiomOfChoice each
    refine ⟨(List.range ls.length).map U, ⟨by simp, fun i hi => ?_⟩, fun j u hu => ?_⟩
    · obtain ⟨h1, o, k, d, h2, h3⟩ := hU i hi
      exact ⟨o, k, d, by simp [hi, h2], h3⟩
    · have hj : j < ls.length := by
        have := (List.getElem?_eq_some_iff.1 hu).1
        simpa using this
      rw [add_off, (hU j hj).1]
      simpa [hj] using hu
theorem own_co {w : World} {B n : Nat} {v : Value} {vs : List Value} {ls : List (List Sp)} (h : w.ownsRow B 38 1 v n vs) (hl : ls.length = n) (hv : VsCo w vs ls) : ∃ ao c, v = .slice ao n c ∧ CoAt w ao n c ls := by
  have hc := h
  rcases h.2 with ⟨rfl, h0⟩ | ⟨g, cap, cur, rfl, h2, h3, h4, h5, h6⟩
  · obtain rfl : ls = [] := List.eq_nil_of_length_eq_zero (by omega)
    subst h0
    exact ⟨none, 0, rfl, rfl, Nat.le_refl _, by omega, fun _ => ⟨rfl, rfl⟩, fun h => absurd h (Nat.lt_irrefl _)⟩
  · refine ⟨some ⟨g, 0, none⟩, cap, rfl, hl, h4, by unfold maxLen at h5; omega, (by intro e; cases e), fun _ => ⟨g, 0, rfl, fun i hi => ?_⟩⟩
    obtain ⟨o, k, d, q1, q2⟩ := hv.at_ i hi
    have z1 := hc.cells (g := g) rfl i _ q1
    rw [add_off] at z1
    exact ⟨o, k, d, z1, q2⟩
/-- The values of a slice of exceptions. -/
structure VsOd (w : World) (vs : List Value) (os : List Gr) : Prop where
  len : vs.length = os.length * 2
  at_ : ∀ i (h : i < os.length), vs[i * 2]? = some (.int .i64 os[i].1) ∧ (∃ o k d, vs[i * 2 + 1]? = some (.slice o k d) ∧ SpAt w o k d os[i].2) ∧ -9223372036854775808 ≤ os[i].1 ∧ os[i].1 ≤ 9223372036854775807
theorem VsOd.keep {w w' : World} {vs : List Value} {os : List Gr} (h : VsOd w vs os) (k : Below w.heap.size w w') : VsOd w' vs os :=
  ⟨h.len, fun i hi => by obtain ⟨h1, ⟨o, m, d, h2, h3⟩, h4⟩ := h.at_ i hi; exact ⟨h1, ⟨o, m, d, h2, h3.keep k⟩, h4⟩⟩
theorem VsOd.one {w : World} {vs : List Value} {os : List Gr} (h : VsOd w vs os) : ∀ u ∈ vs, u.oneCell' = true := by
  intro u hu
  obtain ⟨j, hj, rfl⟩ := List.getElem_of_mem hu
  have hl := h.len
  obtain ⟨h1, ⟨o, k, d, h2, _⟩, _⟩ := h.at_ (j / 2) (by omega)
  rcases Nat.mod_two_eq_zero_or_one j with e | e
  · rw [show j / 2 * 2 = j by omega, List.getElem?_eq_getElem hj] at h1
    rw [Option.some.inj h1]; rfl
  · rw [show j / 2 * 2 + 1 = j by omega, List.getElem?_eq_getElem hj] at h2
    rw [Option.some.inj h2]; rfl
theorem od_vals {w : World} {a : Addr} {n c : Nat} {os : List Gr} (h : OdAt w (some a) n c os) : ∃ vs, VsOd w vs os ∧ ∀ j u, vs[j]? = some u → w.cell? (a.add j) = some u := by
  by_cases h0 : n = 0
  · obtain rfl : os = [] := List.eq_nil_of_length_eq_zero (by rw [h.len, h0])
    exact ⟨[], ⟨rfl, fun i hi => absurd hi (Nat.not_lt_zero _)⟩, fun j u hu => by simp at hu⟩
  · obtain ⟨b, p, e, hc⟩ := h.here (by omega)
    cases e
    have each : ∀ j : Nat, ∃ u : Value, ∀ hj : j < os.length * 2, w.cell? ⟨b, p + j, none⟩ = some u := by
      intro j
      by_cases hj : j < os.length * 2
      · obtain ⟨h1, ⟨o, k, d, h2, _⟩, _⟩ := hc (j / 2) (by omega)
        rcases Nat.mod_two_eq_zero_or_one j with e | e
        · rw [show j / 2 * 2 = j by omega] at h1; exact ⟨_, fun _ => h1⟩
        · rw [Nat.add_assoc, show j / 2 * 2 + 1 = j by omega] at h2; exact ⟨_, fun _ => h2⟩
      · exact ⟨.slice none 0 0, fun q => absurd q hj⟩
    obtain ⟨U, hU⟩ := Classical.axiomOfChoice each
    refine ⟨(List.range (os.length * 2)).map U, ⟨by simp, fun i hi => ?_⟩, fun j u hu => ?_⟩
    · obtain ⟨h1, ⟨o, k, d, h2, h3⟩, h4⟩ := hc i hi
      refine ⟨?_, ⟨o, k, d, ?_, h3⟩, h4⟩
      · simp [show i * 2 < os.length * 2 by omega]
        exact (Option.some.inj ((hU (i * 2) (by omega)).symm.trans h1))
      · simp [show i * 2 + 1 < os.length * 2 by omega]
        exact (Option.some.inj ((hU (i * 2 + 1) (by omega)).symm.trans (by rw [← Nat.add_assoc]; exact h2)))
    · have hj : j < os.length * 2 := by
        have := (List.getElem?_eq_some_iff.1 hu).1
        simpa using this
      rw [add_off, hU j hj]
      simpa [hj] using hu
theorem own_od {w : World} {B n : Nat} {v : Value} {vs : List Value} {os : List Gr} (h : w.ownsRow B 75 2 v n vs) (hl : os.length = n) (hv : VsOd w vs os) : ∃ ao c, v = .slice ao n c ∧ OdAt w ao n c os := by
  have hc := h
  rcases h.2 with ⟨rfl, h0⟩ | ⟨g, cap, cur, rfl, h2, h3, h4, h5, h6⟩
  · obtain rfl : os = [] := List.eq_nil_of_length_eq_zero (by omega)
    subst h0
    exact ⟨none, 0, rfl, rfl, Nat.le_refl _, by omega, fun _ => ⟨rfl, rfl⟩, fun h => absurd h (Nat.lt_irrefl _)⟩
  · refine ⟨some ⟨g, 0, none⟩, cap, rfl, hl, h4, by unfold maxLen at h5; omega, (by intro e; cases e), fun _ => ⟨g, 0, rfl, fun i hi => ?_⟩⟩
    obtain ⟨q0, ⟨o, k, d, q1, q2⟩, q3⟩ := hv.at_ i hi
    have z0 := hc.cells (g := g) rfl _ _ q0
    have z1 := hc.cells (g := g) rfl _ _ q1
    rw [add_off] at z0 z1
    exact ⟨z0, ⟨o, k, d, by rw [Nat.add_assoc]; exact z1, q2⟩, q3⟩
set_option maxHeartbeats 1000000 in
theorem cloneCo_any (ao : Option Addr) (n c : Nat) (ls : List (List Sp)) (hn : n ≤ 1000000) (w0 w : World) (hl : CoAt w0 ao n c ls) (hk : Below w0.heap.size w0 w) :
    Calls Tryd.prog 41 #[.slice ao n c] w fun e w' => ∃ v vs, e = .returned v ∧ w'.ownsRow w.heap.size 38 1 v n vs ∧ VsCo w0 vs ls ∧ Below w.heap.size w w' := by
  obtain ⟨i0, hi, hz0, hz1, hz2⟩ := info_parts info38
  have q22 : ∀ (w : World) (a : Option Addr) (n c n' c' : Nat), (binOp .eql 26 (.slice a n c) (.slice none n' c')).run Tryd.prog w = .ok (.bool a.isNone) w := fun w a n c n' c' => Lib.run_eql_slice_nil w _ _ a n c n' c' Tryd.underlying26
  have LN := hl.len
  cases ao with
  | none =>
    obtain ⟨rfl, rfl⟩ := hl.bare rfl
    obtain rfl : ls = [] := List.eq_nil_of_length_eq_zero (by omega)
    clear hl
    go_enter Tryd.func41, Tryd.ntmps41
    go_wp2
    go_ret
    exact ⟨_, _, rfl, World.ownsRow_nil _ _ _ _, ⟨rfl, fun i hi => absurd hi (Nat.not_lt_zero _)⟩, Below.refl _ _⟩
  | some a =>
    obtain ⟨vs, hv, hc⟩ := co_vals hl
    have HN := Lib.hid (fun j u h => cell_keep (hc j u h) hk)
    have HV := Lib.hid hv
    have HLV : Hid (vs.length = n) := Lib.hid (by rw [hv.len, LN])
    clear hl hc hv LN
    go_enter Tryd.func41, Tryd.ntmps41
    go_wp2_with (at_builtin; refine wpList_append_own _ rfl _ _ 26 rfl w.heap.size 38 i0 (.slice none 0 0) 1 24 Tryd.underlying26 hi hz0 hz1 hz2 rfl (by decide) _ _ _ rfl (World.ownsRow_made w #[] 0 (Nat.le_refl _) (Nat.zero_le _) rfl) a n c vs rfl ?qc1 ?qc2 ?qc3 ?qc4 ?qc5 ?qc6 ?_)
    case qc1 => rw [HLV.out]; simp
    case qc2 => intro j u hj; exact Lib.cell?_alloc_some _ (HN.out j u hj)
    case qc3 => exact HV.out.one
    case qc4 => unfold maxLen; omega
    case qc5 => omega
    case qc6 => simp
    intro v' w1 hown hgrow hnil
    have HB := Lib.hid (((Below.refl _ w).alloc (Nat.le_refl _) _).grown hgrow (by simp) (by intro k hk; simp [Value.ownBlock] at hk; omega))
    go_wp2
    go_ret
    exact ⟨v', vs, rfl, by simpa using hown, HV.out, HB.out⟩
set_option maxHeartbeats 1000000 in
theorem cloneOd_any (ao : Option Addr) (n c : Nat) (ls : List Gr) (hn : n ≤ 1000000) (w0 w : World) (hl : OdAt w0 ao n c ls) (hk : Below w0.heap.size w0 w) :
    Calls Tryd.prog 43 #[.slice ao n c] w fun e w' => ∃ v vs, e = .returned v ∧ w'.ownsRow w.heap.size 75 2 v n vs ∧ VsOd w0 vs ls ∧ Below w.heap.size w w' := by
  obtain ⟨i0, hi, hz0, hz1, hz2⟩ := info_parts info75
  have q23 : ∀ (w : World) (a : Option Addr) (n c n' c' : Nat), (binOp .eql 27 (.slice a n c) (.slice none n' c')).run Tryd.prog w = .ok (.bool a.isNone) w := fun w a n c n' c' => Lib.run_eql_slice_nil w _ _ a n c n' c' Tryd.underlying27
  have LN := hl.len
  cases ao with
  | none =>
    obtain ⟨rfl, rfl⟩ := hl.bare rfl
    obtain rfl : ls = [] := List.eq_nil_of_length_eq_zero (by omega)
    clear hl
    go_enter Tryd.func43, Tryd.ntmps43
    go_wp2
    go_ret
    exact ⟨_, _, rfl, World.ownsRow_nil _ _ _ _, ⟨rfl, fun i hi => absurd hi (Nat.not_lt_zero _)⟩, Below.refl _ _⟩
  | some a =>
    obtain ⟨vs, hv, hc⟩ := od_vals hl
    have HN := Lib.hid (fun j u h => cell_keep (hc j u h) hk)
    have HV := Lib.hid hv
    have HLV : Hid (vs.length = n * 2) := Lib.hid (by rw [hv.len, LN])
    clear hl hc hv LN
    go_enter Tryd.func43, Tryd.ntmps43
    go_wp2_with (at_builtin; refine wpList_append_own _ rfl _ _ 27 rfl w.heap.size 75 i0 (.agg #[.int .i64 0, .slice none 0 0]) 2 32 Tryd.underlying27 hi hz0 hz1 hz2 rfl (by decide) _ _ _ rfl (World.ownsRow_made w #[] 0 (Nat.le_refl _) (Nat.zero_le _) rfl) a n c vs rfl ?qc1 ?qc2 ?qc3 ?qc4 ?qc5 ?qc6 ?_)
    case qc1 => rw [HLV.out]
    case qc2 => intro j u hj; exact Lib.cell?_alloc_some _ (HN.out j u hj)
    case qc3 => exact HV.out.one
    case qc4 => unfold maxLen; omega
    case qc5 => omega
    case qc6 => simp
    intro v' w1 hown hgrow hnil
    have HB := Lib.hid (((Below.refl _ w).alloc (Nat.le_refl _) _).grown hgrow (by simp) (by intro k hk; simp [Value.ownBlock] at hk; omega))
    go_wp2
    go_ret
    exact ⟨v', vs, rfl, by simpa using hown, HV.out, HB.out⟩
end Go.Proofs.YtacpcokmgahjaaaDoor
