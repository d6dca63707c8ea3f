/- The document's own answer for layer 9: kind, Nums, Args, Name. -/
import Derived.Test.YtimjendkpjojoaaDoorE21
namespace Go.Proofs.YtimjendkpjojoaaDoor
set_option linter.unusedVariables false
set_option linter.unusedSimpArgs false
open Go.ChangeShapes Go.WideShapes Go.ChangeAt Go.RowKit

theorem kind_0 (w : World) : Calls Tryd.prog 51 #[.int .u8 0] w fun e w' => e = .returned (.tuple #[.int .i64 0, .int .i64 0]) ∧ w = w' := by
  go_enter Tryd.func51, Tryd.ntmps51
  go_wp2
  go_returns
  exact ⟨rfl, rfl⟩
theorem kind_1 (w : World) : Calls Tryd.prog 51 #[.int .u8 1] w fun e w' => e = .returned (.tuple #[.int .i64 1, .int .i64 1]) ∧ w = w' := by
  go_enter Tryd.func51, Tryd.ntmps51
  go_wp2
  go_returns
  exact ⟨rfl, rfl⟩
theorem kind_2 (w : World) : Calls Tryd.prog 51 #[.int .u8 2] w fun e w' => e = .returned (.tuple #[.int .i64 1, .int .i64 1]) ∧ w = w' := by
  go_enter Tryd.func51, Tryd.ntmps51
  go_wp2
  go_returns
  exact ⟨rfl, rfl⟩
theorem kind_3 (w : World) : Calls Tryd.prog 51 #[.int .u8 3] w fun e w' => e = .returned (.tuple #[.int .i64 2, .int .i64 1]) ∧ w = w' := by
  go_enter Tryd.func51, Tryd.ntmps51
  go_wp2
  go_returns
  exact ⟨rfl, rfl⟩
theorem kind_4 (w : World) : Calls Tryd.prog 51 #[.int .u8 4] w fun e w' => e = .returned (.tuple #[.int .i64 3, .int .i64 2]) ∧ w = w' := by
  go_enter Tryd.func51, Tryd.ntmps51
  go_wp2
  go_returns
  exact ⟨rfl, rfl⟩
theorem kind_5 (w : World) : Calls Tryd.prog 51 #[.int .u8 5] w fun e w' => e = .returned (.tuple #[.int .i64 0, .int .i64 2]) ∧ w = w' := by
  go_enter Tryd.func51, Tryd.ntmps51
  go_wp2
  go_returns
  exact ⟨rfl, rfl⟩
theorem kind_6 (w : World) : Calls Tryd.prog 51 #[.int .u8 6] w fun e w' => e = .returned (.tuple #[.int .i64 0, .int .i64 2]) ∧ w = w' := by
  go_enter Tryd.func51, Tryd.ntmps51
  go_wp2
  go_returns
  exact ⟨rfl, rfl⟩
theorem kind_7 (w : World) : Calls Tryd.prog 51 #[.int .u8 7] w fun e w' => e = .returned (.tuple #[.int .i64 2, .int .i64 2]) ∧ w = w' := by
  go_enter Tryd.func51, Tryd.ntmps51
  go_wp2
  go_returns
  exact ⟨rfl, rfl⟩
theorem kind_8 (w : World) : Calls Tryd.prog 51 #[.int .u8 8] w fun e w' => e = .returned (.tuple #[.int .i64 0, .int .i64 2]) ∧ w = w' := by
  go_enter Tryd.func51, Tryd.ntmps51
  go_wp2
  go_returns
  exact ⟨rfl, rfl⟩
theorem kind_9 (w : World) : Calls Tryd.prog 51 #[.int .u8 9] w fun e w' => e = .returned (.tuple #[.int .i64 2, .int .i64 2]) ∧ w = w' := by
  go_enter Tryd.func51, Tryd.ntmps51
  go_wp2
  go_returns
  exact ⟨rfl, rfl⟩
theorem kind_10 (w : World) : Calls Tryd.prog 51 #[.int .u8 10] w fun e w' => e = .returned (.tuple #[.int .i64 0, .int .i64 2]) ∧ w = w' := by
  go_enter Tryd.func51, Tryd.ntmps51
  go_wp2
  go_returns
  exact ⟨rfl, rfl⟩
theorem kind_11 (w : World) : Calls Tryd.prog 51 #[.int .u8 11] w fun e w' => e = .returned (.tuple #[.int .i64 0, .int .i64 2]) ∧ w = w' := by
  go_enter Tryd.func51, Tryd.ntmps51
  go_wp2
  go_returns
  exact ⟨rfl, rfl⟩
theorem kind_12 (w : World) : Calls Tryd.prog 51 #[.int .u8 12] w fun e w' => e = .returned (.tuple #[.int .i64 0, .int .i64 2]) ∧ w = w' := by
  go_enter Tryd.func51, Tryd.ntmps51
  go_wp2
  go_returns
  exact ⟨rfl, rfl⟩
theorem kind_in (i : Nat) (w : World) (h : i < 13) : Calls Tryd.prog 51 #[.int .u8 (i : Int)] w fun e w' => e = .returned (.tuple #[.int .i64 (nN i), .int .i64 (aN i)]) ∧ w = w' := by
  match i, h with
  | 0, _ => exact kind_0 w
  | 1, _ => exact kind_1 w
  | 2, _ => exact kind_2 w
  | 3, _ => exact kind_3 w
  | 4, _ => exact kind_4 w
  | 5, _ => exact kind_5 w
  | 6, _ => exact kind_6 w
  | 7, _ => exact kind_7 w
  | 8, _ => exact kind_8 w
  | 9, _ => exact kind_9 w
  | 10, _ => exact kind_10 w
  | 11, _ => exact kind_11 w
  | 12, _ => exact kind_12 w
theorem kind_out (o : Int) (w : World) (h : 12 < o) : Calls Tryd.prog 51 #[.int .u8 o] w fun e w' => e = .returned (.tuple #[.int .i64 (-1), .int .i64 0]) ∧ w = w' := by
  have t0 : (o == 0) = false := by simp; omega
  have t1 : (o == 1) = false := by simp; omega
  have t2 : (o == 2) = false := by simp; omega
  have t3 : (o == 3) = false := by simp; omega
  have t4 : (o == 4) = false := by simp; omega
  have t5 : (o == 5) = false := by simp; omega
  have t6 : (o == 6) = false := by simp; omega
  have t7 : (o == 7) = false := by simp; omega
  have t8 : (o == 8) = false := by simp; omega
  have t9 : (o == 9) = false := by simp; omega
  have t10 : (o == 10) = false := by simp; omega
  have t11 : (o == 11) = false := by simp; omega
  have t12 : (o == 12) = false := by simp; omega
  go_enter Tryd.func51, Tryd.ntmps51
  go_wp2
  go_returns
  exact ⟨rfl, rfl⟩
theorem rnm_long (s : ByteArray) (w : World) (z : s.toList.isEmpty = false) (h : 30 < (s.size : Int)) :
    Calls Tryd.prog 31 #[.string s] w fun e w' => e = .returned (.bool false) ∧ w = w' := by
  have z0 : ¬ s.toList = [] := by simpa using z
  go_enter Tryd.func31, Tryd.ntmps31
  go_wp2
  go_returns
  exact ⟨rfl, rfl⟩
theorem rnm_empty (w : World) :
    Calls Tryd.prog 31 #[.string ⟨#[]⟩] w fun e w' => e = .returned (.bool false) ∧ w = w' := by
  go_enter Tryd.func31, Tryd.ntmps31
  go_wp2
  go_returns
  exact ⟨rfl, rfl⟩
theorem rnm_digit (s : ByteArray) (w : World) (z : s.toList.isEmpty = false) (h : (s.size : Int) ≤ 30) (h0 : 0 < s.size) (d1 : 48 ≤ ((s[0]'h0).toNat : Int)) (d2 : ((s[0]'h0).toNat : Int) ≤ 57) :
    Calls Tryd.prog 31 #[.string s] w fun e w' => e = .returned (.bool false) ∧ w = w' := by
  have z0 : ¬ s.toList = [] := by simpa using z
  obtain ⟨c, hc⟩ : ∃ c : Int, ((s[0]'h0).toNat : Int) = c := ⟨_, rfl⟩
  rw [hc] at d1 d2
  go_enter Tryd.func31, Tryd.ntmps31
  go_wp2
  go_returns
  exact ⟨rfl, rfl⟩
set_option maxHeartbeats 2000000 in
theorem rnm_loop (s : ByteArray) (w : World) (z : s.toList.isEmpty = false) (h : (s.size : Int) ≤ 30) (h0 : 0 < s.size) (hd : ((s[0]'h0).toNat : Int) < 48 ∨ 57 < ((s[0]'h0).toNat : Int)) (r : Bool) (hr : r = true ↔ ∀ i (h : i < s.size), LetP ((s[i]'h).toNat : Int)) :
    Calls Tryd.prog 31 #[.string s] w fun e w' => e = .returned (.bool r) ∧ w = w' := by
  have z0 : ¬ s.toList = [] := by simpa using z
  obtain ⟨c, hc⟩ : ∃ c : Int, ((s[0]'h0).toNat : Int) = c := ⟨_, rfl⟩
  rw [hc] at hd
  have HR := Lib.hid hr
  clear hr
  go_enter Tryd.func31, Tryd.ntmps31
  rcases hd with hd | hd
  all_goals
    go_upto_region 4 with fail
    clear hc
    go_loopw [3, 4] (fun ii s4 wr => ∃ j : Nat, j ≤ s.size ∧ ii = .int .i64 j ∧ w = wr ∧ Hid (∀ i (h : i < s.size), i < j → LetP ((s[i]'h).toNat : Int))) (fun ii s4 _ => s.size - (intOf ii).toNat)
    case atStart => exact ⟨0, Nat.zero_le _, rfl, rfl, Lib.hid (fun i _ h => absurd h (Nat.not_lt_zero _))⟩
    case round =>
      obtain ⟨j, hj, rfl, rfl, HL⟩ := hrel
      have i0 : (0 : Int) ≤ (j : Int) := by omega
      by_cases jlt : j < s.size
      · have i1 : (j : Int) < s.size := by omega
        obtain ⟨x, hx⟩ : ∃ x : Int, ((s[j]'jlt).toNat : Int) = x := ⟨_, rfl⟩
        have x0 : 0 ≤ x := by omega
        have x1 : x ≤ 255 := by have := (s[j]'jlt).toNat_lt; omega
        by_cases hl : LetP x
        · have HL2 : Hid (∀ i (h : i < s.size), i < j + 1 → LetP ((s[i]'h).toNat : Int)) := Lib.hid (fun i h q => by
            by_cases e : i = j
            · subst e; rw [hx]; exact hl
            · exact HL.out i h (by omega))
          rcases hl with rfl | ⟨a, b⟩ | ⟨a, b⟩ | ⟨a, b⟩
          all_goals
            go_wp2
            go_roundw
            case rel => exact ⟨j + 1, by omega, by go_num, by first | rfl | trivial, HL2⟩
            case measure => simp [intOf]; omega
        · have HN := Lib.hid hl
          have hq : x < 48 ∨ (57 < x ∧ x < 65) ∨ (90 < x ∧ x < 95) ∨ x = 96 ∨ 122 < x := by unfold LetP at hl; omega
          obtain rfl : r = false := by
            cases r
            · rfl
            · exact absurd (hx ▸ HR.out.1 rfl j jlt) hl
          have xn : (x != 95) = true := by simp; exact fun e => hl (.inl e)
          clear hl
          rcases hq with a | ⟨a, b⟩ | ⟨a, b⟩ | rfl | a
          all_goals
            go_wp2
            go_returns
            exact ⟨rfl, rfl⟩
      · have i1 : (s.size : Int) ≤ (j : Int) := by omega
        obtain rfl : r = true := HR.out.2 (fun i h => HL.out i h (by omega))
        go_wp2
        go_returns
        exact ⟨rfl, rfl⟩
theorem rnm_name (s : ByteArray) (w : World) (r : Bool) (hr : r = true ↔ RName s) :
    Calls Tryd.prog 31 #[.string s] w fun e w' => e = .returned (.bool r) ∧ w = w' := by
  by_cases z : s.size = 0
  · obtain rfl : s = ⟨#[]⟩ := by cases s with | mk d => simp [ByteArray.size] at z; simp [z]
    obtain rfl : r = false := by
      cases r
      · rfl
      · have := (hr.1 rfl).lo; exact absurd this (by decide)
    exact rnm_empty w
  · have z1 : 0 < s.size := by omega
    have z2 : s.toList.isEmpty = false := by
      rw [ByteArray.toList_eq]
      cases s with | mk d => cases d with | mk l => cases l with
        | nil => exact absurd rfl z
        | cons a b => rfl
    by_cases q : 30 < s.size
    · obtain rfl : r = false := by
        cases r
        · rfl
        · have := (hr.1 rfl).hi; omega
      exact rnm_long s w z2 (by omega)
    · by_cases d : 48 ≤ ((s[0]'z1).toNat : Int) ∧ ((s[0]'z1).toNat : Int) ≤ 57
      · obtain rfl : r = false := by
          cases r
          · rfl
          · exact absurd d (hr.1 rfl).first
        exact rnm_digit s w z2 (by omega) z1 d.1 d.2
      · exact rnm_loop s w z2 (by omega) z1 (by omega) r ⟨fun h => (hr.1 h).all, fun h => hr.2 ⟨z1, by omega, d, h⟩⟩
end Go.Proofs.YtimjendkpjojoaaDoor
