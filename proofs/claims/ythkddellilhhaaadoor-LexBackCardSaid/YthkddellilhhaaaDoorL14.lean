/- lex: the words of a line are right. -/
import Derived.Test.YthkddellilhhaaaDoorL13
namespace Go.Proofs.YthkddellilhhaaaDoor
set_option linter.unusedVariables false
set_option linter.unusedSimpArgs false
open Go.ChangeShapes Go.WideShapes Go.ChangeAt Go.RowKit
theorem date_range {y m d n : Int} (h : onDate y m d = some n) : dok n = true := by
  unfold onDate at h
  split at h
  · rename_i v
    cases h
    exact decide_eq_true v.range
  · cases h
theorem nth_range {y k n : Int} (h : onNth y k = some n) : dok n = true := by
  obtain ⟨h1, h2, h3, h4, rfl⟩ := onNth_some h
  have a := Cal.start_mono (-9999) y h1
  have b := Cal.start_mono (y + 1) 10000 (by omega)
  have c := Cal.start_succ y
  have e1 : Cal.start (-9999) = -4371587 := by decide
  have e2 : Cal.start 10000 = 2932897 := by decide
  exact decide_eq_true (by omega)
theorem week_range {y k d n : Int} (h : onWeek y k d = some n) : dok n = true := by
  have := onWeek_some h
  exact decide_eq_true ⟨this.2.2.2.2.1, this.2.2.2.2.2.1⟩
theorem tail_range {y : Int} {t : List UInt8} {n : Int} (h : tailOf y t = some n) : dok n = true := by
  unfold tailOf at h
  split at h
  · split at h
    · exact date_range h
    · split at h
      · exact week_range h
      · cases h
  · split at h
    · exact nth_range h
    · cases h
  · cases h
theorem read_range {s : List UInt8} {n : Int} (h : readOf s = some n) : dok n = true := by
  unfold readOf restOf at h
  split at h
  · split at h
    · split at h
      · cases h
      · exact tail_range h
    · cases h
  · cases h
theorem first_right {s : List UInt8} {t : Lx.Tk} {n : Nat} (h : Lx.first readOf piOf s = some (t, n)) : rightT t = true ∧ (0 ≤ t.1 ∧ t.1 ≤ 255) ∧ t.2.1.length ≤ maxLen ∧ -9223372036854775808 ≤ t.2.2 ∧ t.2.2 ≤ 9223372036854775807 := by
  unfold Lx.first at h
  cases s with
  | nil => cases h
  | cons c r =>
    dsimp only at h
    split at h
    · rename_i hm
      cases h
      refine ⟨decide_eq_true (.inr (.inr (.inr ⟨rfl, rfl, rfl, by simpa using hm⟩))), by dsimp only; omega, by simp; unfold maxLen; omega, by dsimp only; omega, by dsimp only; omega⟩
    · split at h
      · split at h
        · rename_i d hd
          cases h
          have hr := read_range hd
          have hr2 := of_decide_eq_true hr
          refine ⟨decide_eq_true (.inr (.inr (.inl ⟨rfl, rfl, hr⟩))), by dsimp only; omega, by simp, by dsimp only; omega, by dsimp only; omega⟩
        · cases h
      · split at h
        · split at h
          · rename_i x hx
            cases h
            have hp := Lx.num_pos piOf pi_nil (show Lx.num piOf (c :: r) = some (x.1, x.2) from hx)
            have := pi_range hp.2.2
            refine ⟨decide_eq_true (.inr (.inl ⟨rfl, rfl⟩)), by dsimp only; omega, by simp, this.1, this.2⟩
          · cases h
        · split at h
          · rename_i hn
            cases h
            have hn2 := of_decide_eq_true hn
            refine ⟨decide_eq_true (.inl ⟨rfl, rfl, hn⟩), by dsimp only; omega, by dsimp only; unfold maxLen; omega, by dsimp only; omega, by dsimp only; omega⟩
          · cases h
def RightB (l : List Lx.Tk) : Prop := ∀ t ∈ l, rightT t = true ∧ (0 ≤ t.1 ∧ t.1 ≤ 255) ∧ t.2.1.length ≤ maxLen ∧ -9223372036854775808 ≤ t.2.2 ∧ t.2.2 ≤ 9223372036854775807
theorem RightB.b {l : List Lx.Tk} (h : RightB l) : TkB l := fun t ht => (h t ht).2
theorem RightB.filter {l : List Lx.Tk} (h : RightB l) : l.filter rightT = l := List.filter_eq_self.2 (fun t ht => (h t ht).1)
theorem words_right : ∀ (N : Nat) (s : List UInt8), s.length ≤ N → RightB (Lx.words readOf piOf s 0 []).1 ∧ (Lx.words readOf piOf s 0 []).1.length ≤ s.length
  | N, [], _ => by rw [Lx.words_nil]; exact ⟨fun t ht => (by cases ht), Nat.le_refl _⟩
  | 0, c :: r, h => by simp at h
  | N + 1, c :: r, h => by
    have hr : r.length ≤ N := by simpa using h
    cases hb : Lx.blk c
    · cases hf : Lx.first readOf piOf (c :: r) with
      | none => rw [Lx.words_none readOf piOf hb hf]; exact ⟨fun t ht => (by cases ht), Nat.zero_le _⟩
      | some x =>
        obtain ⟨t, n⟩ := x
        rw [Lx.words_some readOf piOf hb hf, Lx.words_shift readOf piOf N _ (by rw [List.length_drop]; omega)]
        have ih := words_right N (r.drop (n - 1)) (by rw [List.length_drop]; omega)
        split
        · refine ⟨fun u hu => ?_, ?_⟩
          · rcases List.mem_append.1 hu with hu | hu
            · simp at hu; rw [hu]; exact first_right hf
            · exact ih.1 u hu
          · have := ih.2
            rw [List.length_drop] at this
            simp; omega
        · exact ⟨fun t ht => (by cases ht), Nat.zero_le _⟩
    · rw [Lx.words_blank readOf piOf hb, Lx.words_shift readOf piOf N r hr]
      have ih := words_right N r hr
      split
      · simp; exact ⟨ih.1, by have := ih.2; omega⟩
      · exact ⟨fun t ht => (by cases ht), Nat.zero_le _⟩
end Go.Proofs.YthkddellilhhaaaDoor
