/- LexPlace: the walk. -/
import Derived.Test.YthkddellilhhaaaDoorL16
namespace Go.Proofs.YthkddellilhhaaaDoor
set_option linter.unusedVariables false
set_option linter.unusedSimpArgs false
open Go.ChangeShapes Go.WideShapes Go.ChangeAt Go.RowKit
/-- The words of a string, told with their row. -/
theorem words_row (s : ByteArray) (w : World) (hT : Tx w) (hs : s.size ≤ 1048576) (l : List Lx.Tk) (e : Int) (hw : Lx.words readOf piOf s.data.toList 0 [] = (l, e)) :
    Calls Tryd.prog 8 #[.string s] w fun e' w' => ∃ ao c, e' = .returned (.tuple #[.slice ao l.length c, .int .i64 e]) ∧ Hid (TkAt w' ao l.length c l) ∧ Below w.heap.size w w' := words_lit s l l.length rfl e hw w hT hs
set_option maxRecDepth 8000 in
set_option maxHeartbeats 2000000 in
theorem lexPlace_walk (s : ByteArray) (w : World) (hT : Tx w) (hs : s.size ≤ maxLen) : Calls Tryd.prog 5 #[.string s] w fun e w' => e = .returned (.bool true) ∧ Below w.heap.size w w' := by
  have HTX := Lib.hid hT
  unfold maxLen at hs
  have HB : Hid (Below w.heap.size w w) := Lib.hid (Below.refl _ _)
  clear hT
  by_cases c1 : s.size ≤ 500
  · have c2 : (s.size : Int) ≤ 500 := by omega
    obtain ⟨R, hR⟩ : ∃ R, Lx.words readOf piOf s.data.toList 0 [] = R := ⟨_, rfl⟩
    have hp := Lx.words_place readOf piOf pi_nil s.data.toList.length s.data.toList (Nat.le_refl _)
    rw [hR, ← Lib.size_eq] at hp
    obtain ⟨l, at_⟩ := R
    have HW := Lib.hid (words_row s w HTX.out (by omega) l at_ hR)
    clear hR
    rcases hp with hp | ⟨j, hp, hj, hp1, hp2⟩
    · obtain rfl : at_ = -1 := hp
      go_enter Tryd.func5, Tryd.ntmps5
      go_wp2_with fail
      (with_reducible refine HW.out.mono ?_)
      rintro e w1 ⟨ao, c, rfl, HL, q⟩
      have HB := Lib.hid (HB.out.trans (q.mono HB.out.size))
      clear q HW HL
      have HQ := Lib.hid (awake_any w1 (HTX.out.keep HB.out))
      go_wp2_with fail
      (with_reducible refine HQ.out.mono ?_)
      rintro e wz ⟨rfl, q9⟩
      have HF9 := Lib.hid (HB.out.trans (q9.mono HB.out.size))
      clear q9
      go_wp2
      go_returns
      exact ⟨rfl, HF9.out⟩
    · obtain ⟨rfl, rfl⟩ : l = [] ∧ at_ = (j : Int) := by injection hp; constructor <;> assumption
      have HE1 : Hid ((s.extract 0 j).data.toList = s.data.toList.take j) := Lib.hid (by rw [Lib.extract_data]; simp)
      have HE2 : Hid ((s.extract j s.size).data.toList = s.data.toList.drop j) := Lib.hid (by rw [Lib.extract_data, List.take_of_length_le]; rw [List.length_drop, ← Lib.size_eq]; omega)
      obtain ⟨R1, hR1⟩ : ∃ R1, (Lx.words readOf piOf (s.data.toList.take j) 0 []).1 = R1 := ⟨_, rfl⟩
      have hw1 : Lx.words readOf piOf (s.extract 0 j).data.toList 0 [] = (R1, -1) := by rw [HE1.out, ← hR1, ← hp1]
      have hw2 : Lx.words readOf piOf (s.extract j s.size).data.toList 0 [] = ([], 0) := by rw [HE2.out]; exact hp2
      have HW1 := Lib.hid (fun W (h : Tx W) => words_row (s.extract 0 j) W h (by rw [Lib.size_eq, HE1.out, List.length_take]; omega) R1 (-1) hw1)
      have HW2 := Lib.hid (fun W (h : Tx W) => words_row (s.extract j s.size) W h (by rw [Lib.size_eq, HE2.out, List.length_drop, ← Lib.size_eq]; omega) [] 0 hw2)
      have j0 : (0 : Int) ≤ (j : Int) := by omega
      have j1 : (j : Int) < (s.size : Int) := by omega
      have HW : Hid (Calls Tryd.prog 8 #[.string s] w fun e' w' => ∃ ao c, e' = .returned (.tuple #[.slice ao 0 c, .int .i64 (j : Int)]) ∧ Below w.heap.size w w') := Lib.hid (HW.out.mono fun e w' ⟨ao, c, h1, _, h2⟩ => ⟨ao, c, h1, h2⟩)
      clear hw1 hw2 hR1 hp hp1 hp2 hj
      go_enter Tryd.func5, Tryd.ntmps5
      go_wp2_with fail
      (with_reducible refine HW.out.mono ?_)
      rintro e w1 ⟨ao, c, rfl, q⟩
      have HB := Lib.hid (HB.out.trans (q.mono HB.out.size))
      clear q HW
      go_wp2_with fail
      (with_reducible refine (HW1.out _ (HTX.out.keep HB.out)).mono ?_)
      rintro e w2 ⟨ao2, cc2, rfl, _, q⟩
      have HB := Lib.hid (HB.out.trans (q.mono HB.out.size))
      clear q HW1
      go_wp2_with fail
      (with_reducible refine (HW2.out _ (HTX.out.keep HB.out)).mono ?_)
      rintro e w3 ⟨ao3, c3, rfl, _, q⟩
      have HB := Lib.hid (HB.out.trans (q.mono HB.out.size))
      clear q HW2
      have HQ := Lib.hid (awake_any w3 (HTX.out.keep HB.out))
      go_wp2_with fail
      (with_reducible refine HQ.out.mono ?_)
      rintro e wz ⟨rfl, q9⟩
      have HF9 := Lib.hid (HB.out.trans (q9.mono HB.out.size))
      clear q9
      go_wp2
      go_returns
      exact ⟨rfl, HF9.out⟩
  · have c2 : (500 : Int) < (s.size : Int) := by omega
    go_enter Tryd.func5, Tryd.ntmps5
    have HQ := Lib.hid (awake_any w (HTX.out.keep HB.out))
    go_wp2_with fail
    (with_reducible refine HQ.out.mono ?_)
    rintro e wz ⟨rfl, q9⟩
    have HF9 := Lib.hid (HB.out.trans (q9.mono HB.out.size))
    clear q9
    go_wp2
    go_returns
    exact ⟨rfl, HF9.out⟩
end Go.Proofs.YthkddellilhhaaaDoor
