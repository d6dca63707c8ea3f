/- lex: the words of the examples. -/
import Derived.Test.YthkddellilhhaaaDoorL14
namespace Go.Proofs.YthkddellilhhaaaDoor
set_option linter.unusedVariables false
set_option linter.unusedSimpArgs false
open Go.ChangeShapes Go.WideShapes Go.ChangeAt Go.RowKit
def wordsF (rd pi : List UInt8 → Option Int) : Nat → List UInt8 → Nat → List Lx.Tk → List Lx.Tk × Int
  | _, [], _, acc => (acc, -1)
  | 0, _, _, acc => (acc, -1)
  | N + 1, c :: r, k, acc => if Lx.blk c = true then wordsF rd pi N r (k + 1) acc else
    match Lx.first rd pi (c :: r) with
    | none => ([], (k : Int))
    | some (t, n) => wordsF rd pi N (r.drop (n - 1)) (k + n) (acc ++ [t])
theorem words_F (rd pi : List UInt8 → Option Int) : ∀ (N : Nat) (s : List UInt8), s.length ≤ N → ∀ (k : Nat) (acc : List Lx.Tk), Lx.words rd pi s k acc = wordsF rd pi N s k acc
  | N, [], _, k, acc => by rw [Lx.words_nil]; cases N <;> rfl
  | 0, c :: r, h, _, _ => by simp at h
  | N + 1, c :: r, h, k, acc => by
    have hr : r.length ≤ N := by simpa using h
    show _ = if Lx.blk c = true then wordsF rd pi N r (k + 1) acc else
      match Lx.first rd pi (c :: r) with
      | none => ([], (k : Int))
      | some (t, n) => wordsF rd pi N (r.drop (n - 1)) (k + n) (acc ++ [t])
    cases hb : Lx.blk c
    · cases hf : Lx.first rd pi (c :: r) with
      | none => rw [Lx.words_none rd pi hb hf]; rfl
      | some x =>
        obtain ⟨t, n⟩ := x
        rw [Lx.words_some rd pi hb hf, words_F rd pi N _ (by rw [List.length_drop]; omega)]; rfl
    · rw [Lx.words_blank rd pi hb, words_F rd pi N r hr]; rfl
theorem ex1 : Lx.words readOf piOf [103, 114, 111, 117, 112, 40, 51, 44, 32, 100, 97, 121, 41] 0 [] = ([(1, [103, 114, 111, 117, 112], 0), (4, [40], 0), (2, [], 3), (4, [44], 0), (1, [100, 97, 121], 0), (4, [41], 0)], -1) := by
  rw [words_F readOf piOf 13 _ (by decide)]; decide
theorem ex2 : Lx.words readOf piOf [64, 49, 57, 55, 48, 45, 48, 49, 45, 48, 49, 32, 45, 53] 0 [] = ([(3, [], 0), (2, [], -5)], -1) := by
  rw [words_F readOf piOf 14 _ (by decide)]; decide
theorem ex3 : Lx.words readOf piOf [97, 32, 48, 53] 0 [] = ([], 2) := by rw [words_F readOf piOf 4 _ (by decide)]; decide
theorem ex4 : Lx.words readOf piOf [97, 32, 36] 0 [] = ([], 2) := by rw [words_F readOf piOf 3 _ (by decide)]; decide
theorem ex5 : Lx.words readOf piOf [51, 120] 0 [] = ([], 0) := by rw [words_F readOf piOf 2 _ (by decide)]; decide
theorem ex6 : Lx.words readOf piOf [64, 49, 57, 55, 48] 0 [] = ([], 0) := by rw [words_F readOf piOf 5 _ (by decide)]; decide
theorem ex7 : joinT [(1, [97], 0), (2, [], -1)] = [97, 32, 45, 49] := by
  have e1 : rightT (1, [97], 0) = true := by decide
  have e2 : rightT (2, [], -1) = true := by decide
  have e3 : textT (1, [97], 0) = [97] := rfl
  have e4 : textT (2, [], -1) = [45, 49] := by
    show Lib.itoa (-1) = _
    unfold Lib.itoa
    rw [if_pos (by decide), show (-1 : Int).natAbs = 1 from rfl, Lib.decDigits, dif_pos (by decide)]; rfl
  unfold joinT texts
  rw [List.filter_cons, if_pos e1, List.filter_cons, if_pos e2, List.filter_nil]
  simp only [List.map_cons, List.map_nil, e3, e4]
  rfl
end Go.Proofs.YthkddellilhhaaaDoor
