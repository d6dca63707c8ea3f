/- SafeOrder: the law, put together. -/
import Derived.Test.YtplbdfdpcgmcjaaOrdW
namespace Go.Proofs.Ytplbdfdpcgmcjaa
set_option linter.unusedVariables false
set_option linter.unusedSimpArgs false
open Go.ChangeShapes Go.WideShapes Go.ChangeAt Go.RowKit

theorem lessR {i n j m : Int} (ra : rightB i n = true) (rb : rightB j m = true) : lessB i n j m = decide (i < j ∨ i = j ∧ n < m) := by
  unfold lessB
  rw [ra, rb]
  by_cases c : i = j
  · subst c
    simp
  · rw [if_neg c]
    simp [c]
theorem rightB_neg {i n : Int} (h : rightB i n = true) : rightB (-i) (-n) = true := by
  rw [rightB_iff] at *
  omega
theorem minus_some (i n : Int) (ra : rightB i n = true) (hn1 : -9223372036854775808 ≤ n) (hn2 : n ≤ 9223372036854775807) :
    ∃ x y e, ((e != 0) = true ∨ (e = 0 ∧ x = -i ∧ y = -n)) ∧ ∀ w, Calls Try.prog 24 #[.agg #[.int .i8 i, .int .i64 n]] w fun e' w' => e' = .returned (.tuple #[.agg #[.int .i8 x, .int .i64 y], .int .i64 e]) ∧ Below w.heap.size w w' := by
  by_cases c : n = -9223372036854775808
  · subst c
    exact ⟨_, _, _, .inl rfl, fun w => minus_over i w ra⟩
  · have r := rightB_iff i n |>.1 ra
    exact ⟨_, _, _, .inr ⟨rfl, rfl, rfl⟩, fun w => minus_ok i n w ra (by omega) (by omega) (by omega) hn2⟩

theorem ord_law (i n j m k l : Int) (w : World) (i1 : -128 ≤ i) (i2 : i ≤ 127) (n1 : -9223372036854775808 ≤ n) (n2 : n ≤ 9223372036854775807) (j1 : -128 ≤ j) (j2 : j ≤ 127) (m1 : -9223372036854775808 ≤ m) (m2 : m ≤ 9223372036854775807) (k1 : -128 ≤ k) (k2 : k ≤ 127) (l1 : -9223372036854775808 ≤ l) (l2 : l ≤ 9223372036854775807) :
    Calls Try.prog 8 #[.agg #[.int .i8 i, .int .i64 n], .agg #[.int .i8 j, .int .i64 m], .agg #[.int .i8 k, .int .i64 l]] w fun e w' => e = .returned (.bool true) ∧ Below w.heap.size w w' := by
  cases ra : rightB i n
  · exact ord_bad1 i n j m k l w ra
  · cases rb : rightB j m
    · exact ord_bad2 i n j m k l w n1 n2 ra rb
    · cases rc : rightB k l
      · exact ord_bad3 i n j m k l w n1 n2 ra rb rc
      · obtain ⟨x1, y1, e1, s1, U1⟩ := sum_some i n k l n1 n2 l1 l2 ra rc
        obtain ⟨x2, y2, e2, s2, U2⟩ := sum_some j m k l m1 m2 l1 l2 rb rc
        obtain ⟨x3, y3, e3, g1, V1⟩ := minus_some i n ra n1 n2
        obtain ⟨x4, y4, e4, g2, V2⟩ := minus_some j m rb m1 m2
        have ra' := rightB_iff i n |>.1 ra
        have rb' := rightB_iff j m |>.1 rb
        have rc' := rightB_iff k l |>.1 rc
        have eab := lessR ra rb
        have eba := lessR rb ra
        have ebc := lessR rb rc
        have eac := lessR ra rc
        refine ord_right i n j m k l w (ord_call (right_is i n true ra)) (ord_call (right_is j m true rb)) (ord_call (right_is k l true rc)) (lessB i n j m) (ord_call (less_is i n j m _ rfl)) ?_ x1 y1 e1 x2 y2 e2 (ord_call U1) (ord_call U2) ?_ x3 y3 e3 x4 y4 e4 (ord_call V1) (ord_call V2) ?_ (ord_call awake_is)
        · by_cases c : i < j ∨ i = j ∧ n < m
          · have ba : lessB j m i n = false := by rw [eba]; simp; omega
            have ab : lessB i n j m = true := by rw [eab]; simpa using c
            cases bc : lessB j m k l
            · exact .inl ⟨ab, ord_call (less_is j m i n false ba), ord_call (less_is j m k l false bc)⟩
            · have ac : lessB i n k l = true := by
                rw [ebc] at bc
                rw [eac]
                simp at bc ⊢
                omega
              exact .inr (.inl ⟨ab, ord_call (less_is j m i n false ba), ord_call (less_is j m k l true bc), ord_call (less_is i n k l true ac)⟩)
          · have ab : lessB i n j m = false := by rw [eab]; simpa using c
            by_cases q : i = j ∧ n = m
            · have ba : lessB j m i n = false := by rw [eba]; simp; omega
              exact .inr (.inr (.inl ⟨ab, ord_call (less_is j m i n false ba), q.1, q.2⟩))
            · have ba : lessB j m i n = true := by rw [eba]; simp; omega
              by_cases p : i = j
              · exact .inr (.inr (.inr (.inr ⟨ab, ord_call (less_is j m i n true ba), by simpa using fun e : n = m => q ⟨p, e⟩⟩)))
              · exact .inr (.inr (.inr (.inl ⟨ab, ord_call (less_is j m i n true ba), by simpa using p⟩)))
        · rcases s1 with ⟨rfl, s1⟩ | ⟨rfl, -, -⟩
          · rcases s2 with ⟨rfl, s2⟩ | ⟨rfl, -, -⟩
            · by_cases kz : k = 0
              · subst kz
                refine .inr (.inr (.inr ⟨rfl, rfl, rfl, ord_call (less_is x1 y1 x2 y2 _ ?_)⟩))
                have s1 := s1 rfl
                have s2 := s2 rfl
                have r1 : rightB x1 y1 = true := by rw [rightB_iff]; omega
                have r2 : rightB x2 y2 = true := by rw [rightB_iff]; omega
                rw [lessR r1 r2, eab]
                apply decide_eq_decide.2
                omega
              · exact .inr (.inr (.inl ⟨rfl, rfl, by simpa using kz⟩))
            · exact .inr (.inl ⟨rfl, rfl⟩)
          · exact .inl rfl
        · rcases g1 with g1 | ⟨rfl, rfl, rfl⟩
          · exact .inl g1
          · rcases g2 with g2 | ⟨rfl, rfl, rfl⟩
            · exact .inr (.inl ⟨rfl, g2⟩)
            · refine .inr (.inr ⟨rfl, rfl, ord_call (less_is (-j) (-m) (-i) (-n) _ ?_)⟩)
              rw [lessR (rightB_neg rb) (rightB_neg ra), eab]
              apply decide_eq_decide.2
              omega
end Go.Proofs.Ytplbdfdpcgmcjaa
