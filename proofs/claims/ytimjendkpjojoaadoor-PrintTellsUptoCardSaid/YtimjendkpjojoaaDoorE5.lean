/- Nums, Args, rightName, fits. -/
import Derived.Test.YtimjendkpjojoaaDoorE1
namespace Go.Proofs.YtimjendkpjojoaaDoor
set_option linter.unusedVariables false
set_option linter.unusedSimpArgs false
open Go.ChangeShapes Go.WideShapes Go.ChangeAt Go.RowKit
/-- How many numbers, and arguments, an operator has. -/
def nN (i : Nat) : Int := ([0, 1, 1, 2, 3, 0, 0, 2, 0, 2, 0, 0, 0] : List Int).getD i 0
def aN (i : Nat) : Int := ([0, 1, 1, 1, 2, 2, 2, 2, 2, 2, 2, 2, 2] : List Int).getD i 0
theorem nN_bd (i : Nat) (h : i < 13) : 0 ≤ nN i ∧ nN i ≤ 3 := by
  match i, h with
  | 0, _ => exact ⟨by decide, by decide⟩
  | 1, _ => exact ⟨by decide, by decide⟩
  | 2, _ => exact ⟨by decide, by decide⟩
  | 3, _ => exact ⟨by decide, by decide⟩
  | 4, _ => exact ⟨by decide, by decide⟩
  | 5, _ => exact ⟨by decide, by decide⟩
  | 6, _ => exact ⟨by decide, by decide⟩
  | 7, _ => exact ⟨by decide, by decide⟩
  | 8, _ => exact ⟨by decide, by decide⟩
  | 9, _ => exact ⟨by decide, by decide⟩
  | 10, _ => exact ⟨by decide, by decide⟩
  | 11, _ => exact ⟨by decide, by decide⟩
  | 12, _ => exact ⟨by decide, by decide⟩
theorem aN_bd (i : Nat) (h : i < 13) : 0 ≤ aN i ∧ aN i ≤ 2 ∧ (aN i = 0 → i = 0) := by
  match i, h with
  | 0, _ => exact ⟨by decide, by decide, by decide⟩
  | 1, _ => exact ⟨by decide, by decide, by decide⟩
  | 2, _ => exact ⟨by decide, by decide, by decide⟩
  | 3, _ => exact ⟨by decide, by decide, by decide⟩
  | 4, _ => exact ⟨by decide, by decide, by decide⟩
  | 5, _ => exact ⟨by decide, by decide, by decide⟩
  | 6, _ => exact ⟨by decide, by decide, by decide⟩
  | 7, _ => exact ⟨by decide, by decide, by decide⟩
  | 8, _ => exact ⟨by decide, by decide, by decide⟩
  | 9, _ => exact ⟨by decide, by decide, by decide⟩
  | 10, _ => exact ⟨by decide, by decide, by decide⟩
  | 11, _ => exact ⟨by decide, by decide, by decide⟩
  | 12, _ => exact ⟨by decide, by decide, by decide⟩
/-- The table, as it lies. -/
def Tabn (w : World) : Prop := ∀ i : Nat, i < 13 → w.cell? ⟨2, i * 2, none⟩ = some (.int .i64 (nN i)) ∧ w.cell? ⟨2, i * 2 + 1, none⟩ = some (.int .i64 (aN i))
theorem Tabn.keep {w w' : World} (h : Tabn w) (q : Below w.heap.size w w') : Tabn w' := fun i hi => ⟨cell_keep (h i hi).1 q, cell_keep (h i hi).2 q⟩
theorem nums_in (i : Nat) (w : World) (hT : Tabn w) (h : i < 13) :
    Calls Tryd.prog 48 #[.int .u8 (i : Int)] w fun e w' => e = .returned (.tuple #[.int .i64 (nN i), .bool true]) ∧ w = w' := by
  have e1 := (hT i h).1
  have i0 : (0 : Int) ≤ (i : Int) := by omega
  have i1 : (i : Int) ≤ 12 := by omega
  obtain ⟨x, hx⟩ : ∃ x, nN i = x := ⟨_, rfl⟩
  rw [hx] at e1 ⊢
  clear hT hx
  go_enter Tryd.func48, Tryd.ntmps48
  go_wp2
  go_returns
  exact ⟨rfl, rfl⟩
theorem nums_out (o : Int) (w : World) (h : 12 < o) :
    Calls Tryd.prog 48 #[.int .u8 o] w fun e w' => e = .returned (.tuple #[.int .i64 0, .bool false]) ∧ w = w' := by
  go_enter Tryd.func48, Tryd.ntmps48
  go_wp2
  go_returns
  exact ⟨rfl, rfl⟩
theorem args_in (i : Nat) (w : World) (hT : Tabn w) (h : i < 13) :
    Calls Tryd.prog 49 #[.int .u8 (i : Int)] w fun e w' => e = .returned (.int .i64 (aN i)) ∧ w = w' := by
  have e1 := (hT i h).2
  have i0 : (0 : Int) ≤ (i : Int) := by omega
  have i1 : (i : Int) ≤ 12 := by omega
  obtain ⟨x, hx⟩ : ∃ x, aN i = x := ⟨_, rfl⟩
  rw [hx] at e1 ⊢
  clear hT hx
  go_enter Tryd.func49, Tryd.ntmps49
  go_wp2
  go_returns
  exact ⟨rfl, rfl⟩
theorem args_out (o : Int) (w : World) (h : 12 < o) :
    Calls Tryd.prog 49 #[.int .u8 o] w fun e w' => e = .returned (.int .i64 0) ∧ w = w' := by
  go_enter Tryd.func49, Tryd.ntmps49
  go_wp2
  go_returns
  exact ⟨rfl, rfl⟩
/-- Is a byte a letter of a name? -/
def LetP (c : Int) : Prop := c = 95 ∨ (48 ≤ c ∧ c ≤ 57) ∨ (97 ≤ c ∧ c ≤ 122) ∨ (65 ≤ c ∧ c ≤ 90)
/-- A right name. -/
structure RName (s : ByteArray) : Prop where
  lo : 0 < s.size
  hi : s.size ≤ 30
  first : ¬ (48 ≤ ((s[0]'lo).toNat : Int) ∧ ((s[0]'lo).toNat : Int) ≤ 57)
  all : ∀ i (h : i < s.size), LetP ((s[i]'h).toNat : Int)
theorem right_long (s : ByteArray) (w : World) (z : s.toList.isEmpty = false) (h : 30 < (s.size : Int)) :
    Calls Tryd.prog 50 #[.string s] w fun e w' => e = .returned (.bool false) ∧ w = w' := by
  have z0 : ¬ s.toList = [] := by simpa using z
  go_enter Tryd.func50, Tryd.ntmps50
  go_wp2
  go_returns
  exact ⟨rfl, rfl⟩
theorem right_empty (w : World) :
    Calls Tryd.prog 50 #[.string ⟨#[]⟩] w fun e w' => e = .returned (.bool false) ∧ w = w' := by
  go_enter Tryd.func50, Tryd.ntmps50
  go_wp2
  go_returns
  exact ⟨rfl, rfl⟩
theorem right_digit (s : ByteArray) (w : World) (z : s.toList.isEmpty = false) (h : (s.size : Int) ≤ 30) (h0 : 0 < s.size) (d1 : 48 ≤ ((s[0]'h0).toNat : Int)) (d2 : ((s[0]'h0).toNat : Int) ≤ 57) :
    Calls Tryd.prog 50 #[.string s] w fun e w' => e = .returned (.bool false) ∧ w = w' := by
  have z0 : ¬ s.toList = [] := by simpa using z
  obtain ⟨c, hc⟩ : ∃ c : Int, ((s[0]'h0).toNat : Int) = c := ⟨_, rfl⟩
  rw [hc] at d1 d2
  go_enter Tryd.func50, Tryd.ntmps50
  go_wp2
  go_returns
  exact ⟨rfl, rfl⟩
set_option maxHeartbeats 2000000 in
theorem right_loop (s : ByteArray) (w : World) (z : s.toList.isEmpty = false) (h : (s.size : Int) ≤ 30) (h0 : 0 < s.size) (hd : ((s[0]'h0).toNat : Int) < 48 ∨ 57 < ((s[0]'h0).toNat : Int)) (r : Bool) (hr : r = true ↔ ∀ i (h : i < s.size), LetP ((s[i]'h).toNat : Int)) :
    Calls Tryd.prog 50 #[.string s] w fun e w' => e = .returned (.bool r) ∧ w = w' := by
  have z0 : ¬ s.toList = [] := by simpa using z
  obtain ⟨c, hc⟩ : ∃ c : Int, ((s[0]'h0).toNat : Int) = c := ⟨_, rfl⟩
  rw [hc] at hd
  have HR := Lib.hid hr
  clear hr
  go_enter Tryd.func50, Tryd.ntmps50
  rcases hd with hd | hd
  all_goals
    go_upto_region 4 with fail
    clear hc
    go_loopw [3, 4, 24] (fun s3 s4 ii wr => ∃ j : Nat, j ≤ s.size ∧ ii = .int .i64 j ∧ w = wr ∧ Hid (∀ i (h : i < s.size), i < j → LetP ((s[i]'h).toNat : Int))) (fun s3 s4 ii _ => s.size - (intOf ii).toNat)
    case atStart => exact ⟨0, Nat.zero_le _, rfl, rfl, Lib.hid (fun i _ h => absurd h (Nat.not_lt_zero _))⟩
    case round =>
      obtain ⟨j, hj, rfl, rfl, HL⟩ := hrel
      have i0 : (0 : Int) ≤ (j : Int) := by omega
      by_cases jlt : j < s.size
      · have i1 : (j : Int) < s.size := by omega
        obtain ⟨x, hx⟩ : ∃ x : Int, ((s[j]'jlt).toNat : Int) = x := ⟨_, rfl⟩
        have x0 : 0 ≤ x := by omega
        have x1 : x ≤ 255 := by have := (s[j]'jlt).toNat_lt; omega
        by_cases hl : LetP x
        · have HL2 : Hid (∀ i (h : i < s.size), i < j + 1 → LetP ((s[i]'h).toNat : Int)) := Lib.hid (fun i h q => by
            by_cases e : i = j
            · subst e; rw [hx]; exact hl
            · exact HL.out i h (by omega))
          rcases hl with rfl | ⟨a, b⟩ | ⟨a, b⟩ | ⟨a, b⟩
          all_goals
            go_wp2
            go_roundw
            case rel => exact ⟨j + 1, by omega, by go_num, by first | rfl | trivial, HL2⟩
            case measure => simp [intOf]; omega
        · have HN := Lib.hid hl
          have hq : x < 48 ∨ (57 < x ∧ x < 65) ∨ (90 < x ∧ x < 95) ∨ x = 96 ∨ 122 < x := by unfold LetP at hl; omega
          obtain rfl : r = false := by
            cases r
            · rfl
            · exact absurd (hx ▸ HR.out.1 rfl j jlt) hl
          have xn : (x != 95) = true := by simp; exact fun e => hl (.inl e)
          clear hl
          rcases hq with a | ⟨a, b⟩ | ⟨a, b⟩ | rfl | a
          all_goals
            go_wp2
            go_returns
            exact ⟨rfl, rfl⟩
      · have i1 : (s.size : Int) ≤ (j : Int) := by omega
        obtain rfl : r = true := HR.out.2 (fun i h => HL.out i h (by omega))
        go_wp2
        go_returns
        exact ⟨rfl, rfl⟩
theorem right_name (s : ByteArray) (w : World) (r : Bool) (hr : r = true ↔ RName s) :
    Calls Tryd.prog 50 #[.string s] w fun e w' => e = .returned (.bool r) ∧ w = w' := by
  by_cases z : s.size = 0
  · obtain rfl : s = ⟨#[]⟩ := by cases s with | mk d => simp [ByteArray.size] at z; simp [z]
    obtain rfl : r = false := by
      cases r
      · rfl
      · have := (hr.1 rfl).lo; exact absurd this (by decide)
    exact right_empty w
  · have z1 : 0 < s.size := by omega
    have z2 : s.toList.isEmpty = false := by
      rw [ByteArray.toList_eq]
      cases s with | mk d => cases d with | mk l => cases l with
        | nil => exact absurd rfl z
        | cons a b => rfl
    by_cases q : 30 < s.size
    · obtain rfl : r = false := by
        cases r
        · rfl
        · have := (hr.1 rfl).hi; omega
      exact right_long s w z2 (by omega)
    · by_cases d : 48 ≤ ((s[0]'z1).toNat : Int) ∧ ((s[0]'z1).toNat : Int) ≤ 57
      · obtain rfl : r = false := by
          cases r
          · rfl
          · exact absurd d (hr.1 rfl).first
        exact right_digit s w z2 (by omega) z1 d.1 d.2
      · exact right_loop s w z2 (by omega) z1 (by omega) r ⟨fun h => (hr.1 h).all, fun h => hr.2 ⟨z1, by omega, d, h⟩⟩
end Go.Proofs.YtimjendkpjojoaaDoor
