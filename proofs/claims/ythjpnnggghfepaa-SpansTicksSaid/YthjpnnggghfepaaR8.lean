/- Contracts: the document's Make. -/
import Derived.Test.YthjpnnggghfepaaR7
import Derived.Test.YthjpnnggghfepaaM1
import Derived.Test.YthjpnnggghfepaaU6
namespace Go.Proofs.Ythjpnnggghfepaa
set_option linter.unusedVariables false
set_option linter.unusedSimpArgs false
open Go.ChangeShapes Go.WideShapes Go.ChangeAt Go.RowKit
/-- What the document's Make tells. -/
def MadeR (B : Nat) (w' : World) (l : List Sp) (v : Value) (k : Int) : Prop :=
  ((∃ s ∈ l, s.2 < s.1) ∧ k = 2 ∧ v = .slice none 0 0) ∨ ((∀ s ∈ l, s.1 ≤ s.2) ∧ (∃ s ∈ l, ¬ TkSp s) ∧ k = 20 ∧ v = .slice none 0 0) ∨
  ((∀ s ∈ l, s.1 ≤ s.2) ∧ (∀ s ∈ l, TkSp s) ∧ k = 0 ∧ ∃ r, Good r ∧ (∀ t, mem r t ↔ mem l t) ∧ r.length ≤ 2 * l.length ∧ w'.ownsRow B 35 2 v r.length (spCells r))
theorem Fk_one (l : List Sp) (t : Int) : Fk 1 l [] t = true ↔ mem l t := by
  unfold Fk inB
  rw [if_pos rfl]
  have : ¬ mem [] t := mem_nil t
  simp [this]
def RefMakePost (w : World) (l : List Sp) (e : Ending) (w' : World) : Prop := ∃ (v : Value) (k : Int), e = .returned (.tuple #[v, .int .i64 k]) ∧ Below w.heap.size w w' ∧ MadeR w.heap.size w' l v k
set_option maxHeartbeats 4000000 in
theorem refMake_any (ao : Option Addr) (n c : Nat) (l : List Sp) (hn : n ≤ 5000) (w : World) (hl : SpAt w ao n c l) :
    Calls Try.prog 12 #[.slice ao n c] w (RefMakePost w l) := by
  have HL := Lib.hid hl
  have LN := Lib.hid hl.len
  clear hl
  go_enter Try.func12, Try.ntmps12
  go_wp2
  go_loopw [4] (fun ii wr => ∃ i : Nat, i ≤ n ∧ ii = .int .i64 i ∧ Hid (∀ s ∈ l.take i, s.1 ≤ s.2) ∧ Hid (Below w.heap.size w wr)) (fun ii _ => n - (intOf ii).toNat)
  case atStart => exact ⟨0, Nat.zero_le _, rfl, Lib.hid (fun s h => by cases h), Lib.hid (Below.refl _ _)⟩
  case round =>
    obtain ⟨i, hi, rfl, HJ, HW⟩ := hrel
    by_cases ilt : i < n
    · obtain ⟨b, p, rfl, hc⟩ := HL.out.here (by omega)
      have hil : i < l.length := by rw [LN.out]; exact ilt
      have c1 := cell_keep (hc i hil).1 HW.out
      have c2 := cell_keep (hc i hil).2 HW.out
      have HT := Lib.hid (fun s => mem_take_succ (s := s) hil)
      have HM := Lib.hid (List.getElem_mem hil)
      have i0' : (0 : Int) ≤ (i : Int) := by omega
      have i1' : (i : Int) < (n : Int) := by omega
      clear hc
      obtain ⟨s, hs⟩ : ∃ z, l[i] = z := ⟨_, rfl⟩
      rw [hs] at c1 c2 HT HM
      clear hs hil
      obtain ⟨x, y⟩ := s
      simp only at c1 c2
      by_cases h1 : y < x
      · have HF : Hid (∃ s ∈ l, s.2 < s.1) := Lib.hid ⟨_, HM.out, h1⟩
        clear HT HM HJ
        go_upto_region 4 with fail
        go_quiet (fail)
        go_wp2
        go_returns
        exact ⟨_, _, rfl, below_drewN HW.out _, .inl ⟨HF.out, rfl, rfl⟩⟩
      · have HJ2 : Hid (∀ s ∈ l.take (i + 1), s.1 ≤ s.2) := Lib.hid (fun s hs => by
          rcases (HT.out s).1 hs with h | rfl
          · exact HJ.out s h
          · simp only; omega)
        clear HT HM HJ
        go_upto_region 4 with fail
        go_quiet (fail)
        go_wp2
        go_roundw
        case rel => exact ⟨i + 1, by omega, by go_num, HJ2, Lib.hid (below_drewN HW.out _)⟩
        case measure => simp [intOf]; omega
    · obtain rfl : i = n := by omega
      have HLE : Hid (∀ s ∈ l, s.1 ≤ s.2) := Lib.hid (by
        have h := HJ.out
        rw [List.take_of_length_le (by rw [LN.out]; exact Nat.le_refl _)] at h
        exact h)
      clear HJ
      go_wp2
      go_loopw [5] (fun ii wx => ∃ j : Nat, j ≤ i ∧ ii = .int .i64 j ∧ Hid (∀ s ∈ l.take j, TkSp s) ∧ Hid (Below w.heap.size w wx)) (fun ii _ => i - (intOf ii).toNat)
      case atStart => exact ⟨0, Nat.zero_le _, rfl, Lib.hid (fun s h => by cases h), HW⟩
      case round =>
        obtain ⟨j, hj, rfl, HJ, HX⟩ := hrel
        by_cases jlt : j < i
        · obtain ⟨b, p, rfl, hc⟩ := HL.out.here (by omega)
          have hil : j < l.length := by rw [LN.out]; exact jlt
          have c1 := cell_keep (hc j hil).1 HX.out
          have c2 := cell_keep (hc j hil).2 HX.out
          have HT := Lib.hid (fun s => mem_take_succ (s := s) hil)
          have HM := Lib.hid (List.getElem_mem hil)
          have i0' : (0 : Int) ≤ (j : Int) := by omega
          have i1' : (j : Int) < (i : Int) := by omega
          clear hc
          obtain ⟨s, hs⟩ : ∃ z, l[j] = z := ⟨_, rfl⟩
          rw [hs] at c1 c2 HT HM
          clear hs hil
          obtain ⟨x, y⟩ := s
          simp only at c1 c2
          by_cases h1 : x < -1099511627776
          · have HF : Hid (∃ s ∈ l, ¬ TkSp s) := Lib.hid ⟨_, HM.out, fun q => by have := q.1.1; simp only at this; omega⟩
            go_wp2
            go_returns
            exact ⟨_, _, rfl, HX.out, .inr (.inl ⟨HLE.out, HF.out, rfl, rfl⟩)⟩
          · by_cases h2 : 1099511627776 < y
            · have HF : Hid (∃ s ∈ l, ¬ TkSp s) := Lib.hid ⟨_, HM.out, fun q => by have := q.2.2; simp only at this; omega⟩
              go_wp2
              go_returns
              exact ⟨_, _, rfl, HX.out, .inr (.inl ⟨HLE.out, HF.out, rfl, rfl⟩)⟩
            · by_cases h3 : 1099511627776 < x
              · have HF : Hid (∃ s ∈ l, ¬ TkSp s) := Lib.hid ⟨_, HM.out, fun q => by have := q.1.2; simp only at this; omega⟩
                go_wp2
                go_returns
                exact ⟨_, _, rfl, HX.out, .inr (.inl ⟨HLE.out, HF.out, rfl, rfl⟩)⟩
              · by_cases h4 : y < -1099511627776
                · have HF : Hid (∃ s ∈ l, ¬ TkSp s) := Lib.hid ⟨_, HM.out, fun q => by have := q.2.1; simp only at this; omega⟩
                  go_wp2
                  go_returns
                  exact ⟨_, _, rfl, HX.out, .inr (.inl ⟨HLE.out, HF.out, rfl, rfl⟩)⟩
                · have HJ2 : Hid (∀ s ∈ l.take (j + 1), TkSp s) := Lib.hid (fun s hs => by
                    rcases (HT.out s).1 hs with h | rfl
                    · exact HJ.out s h
                    · exact ⟨⟨by simp only; omega, by simp only; omega⟩, by simp only; omega, by simp only; omega⟩)
                  clear HT HM HJ
                  go_wp2
                  go_roundw
                  case rel => exact ⟨j + 1, by omega, by go_num, HJ2, HX⟩
                  case measure => simp [intOf]; omega
        · obtain rfl : j = i := by omega
          have HTK : Hid (∀ s ∈ l, TkSp s) := Lib.hid (by
            have h := HJ.out
            rw [List.take_of_length_le (by rw [LN.out]; exact Nat.le_refl _)] at h
            exact h)
          have ST := Lib.hid (refSet_any 1 ao none j c 0 0 l [] hn (by omega) (fun s hs => ⟨HLE.out s hs, (HTK.out s hs).1.1, (HTK.out s hs).2.2⟩) (fun s hs => nomatch hs) wr (HL.out.keep HX.out) (SpAt.nil wr))
          clear HJ
          go_wp2_with (go_at_call 17; (with_reducible refine (ST.out).mono ?_); rintro e w3 ⟨v, r, rfl, q1, q2, q3, q4, q5⟩; have HR := Lib.hid (And.intro q1 (And.intro q2 (And.intro q3 (And.intro q4 q5)))); clear q1 q2 q3 q4 q5)
          go_returns
          obtain ⟨q1, q2, q3, q4, q5⟩ := HR.out
          exact ⟨v, 0, rfl, HX.out.trans (q5.mono HX.out.size), .inr (.inr ⟨HLE.out, HTK.out, rfl, r, q1, fun t => (q2 t).trans (Fk_one l t), by have := LN.out; omega, World.ownsRow.mono q4 HX.out.size⟩)⟩
end Go.Proofs.Ythjpnnggghfepaa
