/- Z1, Z2 in one. -/
import Derived.Test.YtllhcpkpbipjlaaDoorKf
import Derived.Test.YtllhcpkpbipjlaaDoorKaa
namespace Go.Proofs.YtllhcpkpbipjlaaDoor
set_option linter.unusedVariables false
set_option linter.unusedSimpArgs false
open Go.ChangeShapes Go.WideShapes Go.ChangeAt Go.RowKit
set_option maxHeartbeats 1000000 in
theorem rletter (c : UInt8) (w : World) : Calls Tryd.prog 62 #[.int .u8 (c.toNat : Int)] w fun e w' => e = .returned (.bool (Lx.ltr c)) ∧ w = w' := by
  obtain ⟨x, hx⟩ : ∃ x, (c.toNat : Int) = x := ⟨_, rfl⟩
  obtain ⟨r, hr⟩ : ∃ r, Lx.ltr c = r := ⟨_, rfl⟩
  have hr2 : r = true ↔ ((48 ≤ x ∧ x ≤ 57) ∨ (65 ≤ x ∧ x ≤ 90) ∨ (95 ≤ x ∧ x ≤ 95) ∨ (97 ≤ x ∧ x ≤ 122)) := by rw [← hr, ← hx]; unfold Lx.ltr; rw [decide_eq_true_iff]; omega
  have b := u8c c
  rw [hx] at b
  rw [hx, hr]
  clear hx hr
  obtain ⟨b0, b1⟩ := b
  have hc : (0 ≤ x ∧ x ≤ 47) ∨ (48 ≤ x ∧ x ≤ 57) ∨ (58 ≤ x ∧ x ≤ 64) ∨ (65 ≤ x ∧ x ≤ 90) ∨ (91 ≤ x ∧ x ≤ 94) ∨ (95 ≤ x ∧ x ≤ 95) ∨ (96 ≤ x ∧ x ≤ 96) ∨ (97 ≤ x ∧ x ≤ 122) ∨ (123 ≤ x ∧ x ≤ 255) := by omega
  rcases hc with ⟨a1, a2⟩ | ⟨a1, a2⟩ | ⟨a1, a2⟩ | ⟨a1, a2⟩ | ⟨a1, a2⟩ | ⟨a1, a2⟩ | ⟨a1, a2⟩ | ⟨a1, a2⟩ | ⟨a1, a2⟩
  · obtain rfl : r = false := by cases r; rfl; (have := hr2.1 rfl; omega)
    clear hr2
    have g48 : decide (48 ≤ x) = false := by simp; omega
    have g65 : decide (65 ≤ x) = false := by simp; omega
    have g97 : decide (97 ≤ x) = false := by simp; omega
    have l57 : decide (x ≤ 57) = true := by simp; omega
    have l90 : decide (x ≤ 90) = true := by simp; omega
    have l122 : decide (x ≤ 122) = true := by simp; omega
    have e95 : (x == 95) = false := by simp; omega
    clear a1 a2
    go_enter Tryd.func62, Tryd.ntmps62
    go_wp2
    go_returns
    exact ⟨rfl, rfl⟩
  · obtain rfl : r = true := by exact hr2.2 (by omega)
    clear hr2
    have g48 : decide (48 ≤ x) = true := by simp; omega
    have g65 : decide (65 ≤ x) = false := by simp; omega
    have g97 : decide (97 ≤ x) = false := by simp; omega
    have l57 : decide (x ≤ 57) = true := by simp; omega
    have l90 : decide (x ≤ 90) = true := by simp; omega
    have l122 : decide (x ≤ 122) = true := by simp; omega
    have e95 : (x == 95) = false := by simp; omega
    clear a1 a2
    go_enter Tryd.func62, Tryd.ntmps62
    go_wp2
    go_returns
    exact ⟨rfl, rfl⟩
  · obtain rfl : r = false := by cases r; rfl; (have := hr2.1 rfl; omega)
    clear hr2
    have g48 : decide (48 ≤ x) = true := by simp; omega
    have g65 : decide (65 ≤ x) = false := by simp; omega
    have g97 : decide (97 ≤ x) = false := by simp; omega
    have l57 : decide (x ≤ 57) = false := by simp; omega
    have l90 : decide (x ≤ 90) = true := by simp; omega
    have l122 : decide (x ≤ 122) = true := by simp; omega
    have e95 : (x == 95) = false := by simp; omega
    clear a1 a2
    go_enter Tryd.func62, Tryd.ntmps62
    go_wp2
    go_returns
    exact ⟨rfl, rfl⟩
  · obtain rfl : r = true := by exact hr2.2 (by omega)
    clear hr2
    have g48 : decide (48 ≤ x) = true := by simp; omega
    have g65 : decide (65 ≤ x) = true := by simp; omega
    have g97 : decide (97 ≤ x) = false := by simp; omega
    have l57 : decide (x ≤ 57) = false := by simp; omega
    have l90 : decide (x ≤ 90) = true := by simp; omega
    have l122 : decide (x ≤ 122) = true := by simp; omega
    have e95 : (x == 95) = false := by simp; omega
    clear a1 a2
    go_enter Tryd.func62, Tryd.ntmps62
    go_wp2
    go_returns
    exact ⟨rfl, rfl⟩
  · obtain rfl : r = false := by cases r; rfl; (have := hr2.1 rfl; omega)
    clear hr2
    have g48 : decide (48 ≤ x) = true := by simp; omega
    have g65 : decide (65 ≤ x) = true := by simp; omega
    have g97 : decide (97 ≤ x) = false := by simp; omega
    have l57 : decide (x ≤ 57) = false := by simp; omega
    have l90 : decide (x ≤ 90) = false := by simp; omega
    have l122 : decide (x ≤ 122) = true := by simp; omega
    have e95 : (x == 95) = false := by simp; omega
    clear a1 a2
    go_enter Tryd.func62, Tryd.ntmps62
    go_wp2
    go_returns
    exact ⟨rfl, rfl⟩
  · obtain rfl : r = true := by exact hr2.2 (by omega)
    clear hr2
    have g48 : decide (48 ≤ x) = true := by simp; omega
    have g65 : decide (65 ≤ x) = true := by simp; omega
    have g97 : decide (97 ≤ x) = false := by simp; omega
    have l57 : decide (x ≤ 57) = false := by simp; omega
    have l90 : decide (x ≤ 90) = false := by simp; omega
    have l122 : decide (x ≤ 122) = true := by simp; omega
    have e95 : (x == 95) = true := by simp; omega
    clear a1 a2
    go_enter Tryd.func62, Tryd.ntmps62
    go_wp2
    go_returns
    exact ⟨rfl, rfl⟩
  · obtain rfl : r = false := by cases r; rfl; (have := hr2.1 rfl; omega)
    clear hr2
    have g48 : decide (48 ≤ x) = true := by simp; omega
    have g65 : decide (65 ≤ x) = true := by simp; omega
    have g97 : decide (97 ≤ x) = false := by simp; omega
    have l57 : decide (x ≤ 57) = false := by simp; omega
    have l90 : decide (x ≤ 90) = false := by simp; omega
    have l122 : decide (x ≤ 122) = true := by simp; omega
    have e95 : (x == 95) = false := by simp; omega
    clear a1 a2
    go_enter Tryd.func62, Tryd.ntmps62
    go_wp2
    go_returns
    exact ⟨rfl, rfl⟩
  · obtain rfl : r = true := by exact hr2.2 (by omega)
    clear hr2
    have g48 : decide (48 ≤ x) = true := by simp; omega
    have g65 : decide (65 ≤ x) = true := by simp; omega
    have g97 : decide (97 ≤ x) = true := by simp; omega
    have l57 : decide (x ≤ 57) = false := by simp; omega
    have l90 : decide (x ≤ 90) = false := by simp; omega
    have l122 : decide (x ≤ 122) = true := by simp; omega
    have e95 : (x == 95) = false := by simp; omega
    clear a1 a2
    go_enter Tryd.func62, Tryd.ntmps62
    go_wp2
    go_returns
    exact ⟨rfl, rfl⟩
  · obtain rfl : r = false := by cases r; rfl; (have := hr2.1 rfl; omega)
    clear hr2
    have g48 : decide (48 ≤ x) = true := by simp; omega
    have g65 : decide (65 ≤ x) = true := by simp; omega
    have g97 : decide (97 ≤ x) = true := by simp; omega
    have l57 : decide (x ≤ 57) = false := by simp; omega
    have l90 : decide (x ≤ 90) = false := by simp; omega
    have l122 : decide (x ≤ 122) = false := by simp; omega
    have e95 : (x == 95) = false := by simp; omega
    clear a1 a2
    go_enter Tryd.func62, Tryd.ntmps62
    go_wp2
    go_returns
    exact ⟨rfl, rfl⟩
set_option maxHeartbeats 1000000 in
theorem rdigit (c : UInt8) (w : World) : Calls Tryd.prog 64 #[.int .u8 (c.toNat : Int)] w fun e w' => e = .returned (.bool (Lx.dgt c)) ∧ w = w' := by
  obtain ⟨x, hx⟩ : ∃ x, (c.toNat : Int) = x := ⟨_, rfl⟩
  obtain ⟨r, hr⟩ : ∃ r, Lx.dgt c = r := ⟨_, rfl⟩
  have hr2 : r = true ↔ ((48 ≤ x ∧ x ≤ 57)) := by rw [← hr, ← hx]; unfold Lx.dgt; rw [decide_eq_true_iff]; omega
  have b := u8c c
  rw [hx] at b
  rw [hx, hr]
  clear hx hr
  obtain ⟨b0, b1⟩ := b
  have hc : (0 ≤ x ∧ x ≤ 47) ∨ (48 ≤ x ∧ x ≤ 57) ∨ (58 ≤ x ∧ x ≤ 255) := by omega
  rcases hc with ⟨a1, a2⟩ | ⟨a1, a2⟩ | ⟨a1, a2⟩
  · obtain rfl : r = false := by cases r; rfl; (have := hr2.1 rfl; omega)
    clear hr2
    have g48 : decide (48 ≤ x) = false := by simp; omega
    have l57 : decide (x ≤ 57) = true := by simp; omega
    clear a1 a2
    go_enter Tryd.func64, Tryd.ntmps64
    go_wp2
    go_returns
    exact ⟨rfl, rfl⟩
  · obtain rfl : r = true := by exact hr2.2 (by omega)
    clear hr2
    have g48 : decide (48 ≤ x) = true := by simp; omega
    have l57 : decide (x ≤ 57) = true := by simp; omega
    clear a1 a2
    go_enter Tryd.func64, Tryd.ntmps64
    go_wp2
    go_returns
    exact ⟨rfl, rfl⟩
  · obtain rfl : r = false := by cases r; rfl; (have := hr2.1 rfl; omega)
    clear hr2
    have g48 : decide (48 ≤ x) = true := by simp; omega
    have l57 : decide (x ≤ 57) = false := by simp; omega
    clear a1 a2
    go_enter Tryd.func64, Tryd.ntmps64
    go_wp2
    go_returns
    exact ⟨rfl, rfl⟩
set_option maxHeartbeats 1000000 in
theorem rmark (c : UInt8) (w : World) : Calls Tryd.prog 61 #[.int .u8 (c.toNat : Int)] w fun e w' => e = .returned (.bool (Lx.mrk c)) ∧ w = w' := by
  obtain ⟨x, hx⟩ : ∃ x, (c.toNat : Int) = x := ⟨_, rfl⟩
  obtain ⟨r, hr⟩ : ∃ r, Lx.mrk c = r := ⟨_, rfl⟩
  have hr2 : r = true ↔ ((40 ≤ x ∧ x ≤ 40) ∨ (41 ≤ x ∧ x ≤ 41) ∨ (44 ≤ x ∧ x ≤ 44) ∨ (58 ≤ x ∧ x ≤ 58) ∨ (61 ≤ x ∧ x ≤ 61) ∨ (91 ≤ x ∧ x ≤ 91) ∨ (93 ≤ x ∧ x ≤ 93)) := by rw [← hr, ← hx]; unfold Lx.mrk; rw [decide_eq_true_iff]; omega
  have b := u8c c
  rw [hx] at b
  rw [hx, hr]
  clear hx hr
  obtain ⟨b0, b1⟩ := b
  have hc : (0 ≤ x ∧ x ≤ 39) ∨ (40 ≤ x ∧ x ≤ 40) ∨ (41 ≤ x ∧ x ≤ 41) ∨ (42 ≤ x ∧ x ≤ 43) ∨ (44 ≤ x ∧ x ≤ 44) ∨ (45 ≤ x ∧ x ≤ 57) ∨ (58 ≤ x ∧ x ≤ 58) ∨ (59 ≤ x ∧ x ≤ 60) ∨ (61 ≤ x ∧ x ≤ 61) ∨ (62 ≤ x ∧ x ≤ 90) ∨ (91 ≤ x ∧ x ≤ 91) ∨ (92 ≤ x ∧ x ≤ 92) ∨ (93 ≤ x ∧ x ≤ 93) ∨ (94 ≤ x ∧ x ≤ 255) := by omega
  rcases hc with ⟨a1, a2⟩ | ⟨a1, a2⟩ | ⟨a1, a2⟩ | ⟨a1, a2⟩ | ⟨a1, a2⟩ | ⟨a1, a2⟩ | ⟨a1, a2⟩ | ⟨a1, a2⟩ | ⟨a1, a2⟩ | ⟨a1, a2⟩ | ⟨a1, a2⟩ | ⟨a1, a2⟩ | ⟨a1, a2⟩ | ⟨a1, a2⟩
  · obtain rfl : r = false := by cases r; rfl; (have := hr2.1 rfl; omega)
    clear hr2
    have e40 : (x == 40) = false := by simp; omega
    have e41 : (x == 41) = false := by simp; omega
    have e44 : (x == 44) = false := by simp; omega
    have e58 : (x == 58) = false := by simp; omega
    have e61 : (x == 61) = false := by simp; omega
    have e91 : (x == 91) = false := by simp; omega
    have e93 : (x == 93) = false := by simp; omega
    clear a1 a2
    go_enter Tryd.func61, Tryd.ntmps61
    go_wp2
    go_returns
    exact ⟨rfl, rfl⟩
  · obtain rfl : r = true := by exact hr2.2 (by omega)
    clear hr2
    have e40 : (x == 40) = true := by simp; omega
    have e41 : (x == 41) = false := by simp; omega
    have e44 : (x == 44) = false := by simp; omega
    have e58 : (x == 58) = false := by simp; omega
    have e61 : (x == 61) = false := by simp; omega
    have e91 : (x == 91) = false := by simp; omega
    have e93 : (x == 93) = false := by simp; omega
    clear a1 a2
    go_enter Tryd.func61, Tryd.ntmps61
    go_wp2
    go_returns
    exact ⟨rfl, rfl⟩
  · obtain rfl : r = true := by exact hr2.2 (by omega)
    clear hr2
    have e40 : (x == 40) = false := by simp; omega
    have e41 : (x == 41) = true := by simp; omega
    have e44 : (x == 44) = false := by simp; omega
    have e58 : (x == 58) = false := by simp; omega
    have e61 : (x == 61) = false := by simp; omega
    have e91 : (x == 91) = false := by simp; omega
    have e93 : (x == 93) = false := by simp; omega
    clear a1 a2
    go_enter Tryd.func61, Tryd.ntmps61
    go_wp2
    go_returns
    exact ⟨rfl, rfl⟩
  · obtain rfl : r = false := by cases r; rfl; (have := hr2.1 rfl; omega)
    clear hr2
    have e40 : (x == 40) = false := by simp; omega
    have e41 : (x == 41) = false := by simp; omega
    have e44 : (x == 44) = false := by simp; omega
    have e58 : (x == 58) = false := by simp; omega
    have e61 : (x == 61) = false := by simp; omega
    have e91 : (x == 91) = false := by simp; omega
    have e93 : (x == 93) = false := by simp; omega
    clear a1 a2
    go_enter Tryd.func61, Tryd.ntmps61
    go_wp2
    go_returns
    exact ⟨rfl, rfl⟩
  · obtain rfl : r = true := by exact hr2.2 (by omega)
    clear hr2
    have e40 : (x == 40) = false := by simp; omega
    have e41 : (x == 41) = false := by simp; omega
    have e44 : (x == 44) = true := by simp; omega
    have e58 : (x == 58) = false := by simp; omega
    have e61 : (x == 61) = false := by simp; omega
    have e91 : (x == 91) = false := by simp; omega
    have e93 : (x == 93) = false := by simp; omega
    clear a1 a2
    go_enter Tryd.func61, Tryd.ntmps61
    go_wp2
    go_returns
    exact ⟨rfl, rfl⟩
  · obtain rfl : r = false := by cases r; rfl; (have := hr2.1 rfl; omega)
    clear hr2
    have e40 : (x == 40) = false := by simp; omega
    have e41 : (x == 41) = false := by simp; omega
    have e44 : (x == 44) = false := by simp; omega
    have e58 : (x == 58) = false := by simp; omega
    have e61 : (x == 61) = false := by simp; omega
    have e91 : (x == 91) = false := by simp; omega
    have e93 : (x == 93) = false := by simp; omega
    clear a1 a2
    go_enter Tryd.func61, Tryd.ntmps61
    go_wp2
    go_returns
    exact ⟨rfl, rfl⟩
  · obtain rfl : r = true := by exact hr2.2 (by omega)
    clear hr2
    have e40 : (x == 40) = false := by simp; omega
    have e41 : (x == 41) = false := by simp; omega
    have e44 : (x == 44) = false := by simp; omega
    have e58 : (x == 58) = true := by simp; omega
    have e61 : (x == 61) = false := by simp; omega
    have e91 : (x == 91) = false := by simp; omega
    have e93 : (x == 93) = false := by simp; omega
    clear a1 a2
    go_enter Tryd.func61, Tryd.ntmps61
    go_wp2
    go_returns
    exact ⟨rfl, rfl⟩
  · obtain rfl : r = false := by cases r; rfl; (have := hr2.1 rfl; omega)
    clear hr2
    have e40 : (x == 40) = false := by simp; omega
    have e41 : (x == 41) = false := by simp; omega
    have e44 : (x == 44) = false := by simp; omega
    have e58 : (x == 58) = false := by simp; omega
    have e61 : (x == 61) = false := by simp; omega
    have e91 : (x == 91) = false := by simp; omega
    have e93 : (x == 93) = false := by simp; omega
    clear a1 a2
    go_enter Tryd.func61, Tryd.ntmps61
    go_wp2
    go_returns
    exact ⟨rfl, rfl⟩
  · obtain rfl : r = true := by exact hr2.2 (by omega)
    clear hr2
    have e40 : (x == 40) = false := by simp; omega
    have e41 : (x == 41) = false := by simp; omega
    have e44 : (x == 44) = false := by simp; omega
    have e58 : (x == 58) = false := by simp; omega
    have e61 : (x == 61) = true := by simp; omega
    have e91 : (x == 91) = false := by simp; omega
    have e93 : (x == 93) = false := by simp; omega
    clear a1 a2
    go_enter Tryd.func61, Tryd.ntmps61
    go_wp2
    go_returns
    exact ⟨rfl, rfl⟩
  · obtain rfl : r = false := by cases r; rfl; (have := hr2.1 rfl; omega)
    clear hr2
    have e40 : (x == 40) = false := by simp; omega
    have e41 : (x == 41) = false := by simp; omega
    have e44 : (x == 44) = false := by simp; omega
    have e58 : (x == 58) = false := by simp; omega
    have e61 : (x == 61) = false := by simp; omega
    have e91 : (x == 91) = false := by simp; omega
    have e93 : (x == 93) = false := by simp; omega
    clear a1 a2
    go_enter Tryd.func61, Tryd.ntmps61
    go_wp2
    go_returns
    exact ⟨rfl, rfl⟩
  · obtain rfl : r = true := by exact hr2.2 (by omega)
    clear hr2
    have e40 : (x == 40) = false := by simp; omega
    have e41 : (x == 41) = false := by simp; omega
    have e44 : (x == 44) = false := by simp; omega
    have e58 : (x == 58) = false := by simp; omega
    have e61 : (x == 61) = false := by simp; omega
    have e91 : (x == 91) = true := by simp; omega
    have e93 : (x == 93) = false := by simp; omega
    clear a1 a2
    go_enter Tryd.func61, Tryd.ntmps61
    go_wp2
    go_returns
    exact ⟨rfl, rfl⟩
  · obtain rfl : r = false := by cases r; rfl; (have := hr2.1 rfl; omega)
    clear hr2
    have e40 : (x == 40) = false := by simp; omega
    have e41 : (x == 41) = false := by simp; omega
    have e44 : (x == 44) = false := by simp; omega
    have e58 : (x == 58) = false := by simp; omega
    have e61 : (x == 61) = false := by simp; omega
    have e91 : (x == 91) = false := by simp; omega
    have e93 : (x == 93) = false := by simp; omega
    clear a1 a2
    go_enter Tryd.func61, Tryd.ntmps61
    go_wp2
    go_returns
    exact ⟨rfl, rfl⟩
  · obtain rfl : r = true := by exact hr2.2 (by omega)
    clear hr2
    have e40 : (x == 40) = false := by simp; omega
    have e41 : (x == 41) = false := by simp; omega
    have e44 : (x == 44) = false := by simp; omega
    have e58 : (x == 58) = false := by simp; omega
    have e61 : (x == 61) = false := by simp; omega
    have e91 : (x == 91) = false := by simp; omega
    have e93 : (x == 93) = true := by simp; omega
    clear a1 a2
    go_enter Tryd.func61, Tryd.ntmps61
    go_wp2
    go_returns
    exact ⟨rfl, rfl⟩
  · obtain rfl : r = false := by cases r; rfl; (have := hr2.1 rfl; omega)
    clear hr2
    have e40 : (x == 40) = false := by simp; omega
    have e41 : (x == 41) = false := by simp; omega
    have e44 : (x == 44) = false := by simp; omega
    have e58 : (x == 58) = false := by simp; omega
    have e61 : (x == 61) = false := by simp; omega
    have e91 : (x == 91) = false := by simp; omega
    have e93 : (x == 93) = false := by simp; omega
    clear a1 a2
    go_enter Tryd.func61, Tryd.ntmps61
    go_wp2
    go_returns
    exact ⟨rfl, rfl⟩
theorem ltr_iff (c : UInt8) : Lx.ltr c = true ↔ (48 ≤ (c.toNat : Int) ∧ (c.toNat : Int) ≤ 57) ∨ (65 ≤ (c.toNat : Int) ∧ (c.toNat : Int) ≤ 90) ∨ ((c.toNat : Int) = 95) ∨ (97 ≤ (c.toNat : Int) ∧ (c.toNat : Int) ≤ 122) := by
  unfold Lx.ltr; rw [decide_eq_true_iff]; omega
theorem dgt_iff (c : UInt8) : Lx.dgt c = true ↔ (48 ≤ (c.toNat : Int) ∧ (c.toNat : Int) ≤ 57) := by
  unfold Lx.dgt; rw [decide_eq_true_iff]; omega
set_option maxHeartbeats 2000000 in
theorem rname_any (s : ByteArray) (w : World) (hs : s.size ≤ maxLen) : Calls Tryd.prog 45 #[.string s] w fun e w' => e = .returned (.bool (Lx.nameOk s.data.toList)) ∧ w = w' := by
  unfold maxLen at hs
  obtain ⟨R, hR⟩ : ∃ r, Lx.nameOk s.data.toList = r := ⟨_, rfl⟩
  rw [hR]
  by_cases h0 : 0 < s.size
  · have h0' : decide ((s.size : Int) < 1) = false := decide_eq_false (by omega)
    have h0'' : (0 : Int) < s.size := by omega
    have hi := name_iff s h0
    rw [hR] at hi
    have HI := Lib.hid hi
    have hd := dgt_iff s[0]
    have b := u8c s[0]
    obtain ⟨x, hx⟩ : ∃ x : Int, ((s[0]).toNat : Int) = x := ⟨_, rfl⟩
    rw [hx] at b hd
    obtain ⟨b0, b1⟩ := b
    have HD := Lib.hid hd
    clear hi hR hd
    by_cases h1 : (s.size : Int) ≤ 30
    · have h1' : decide (30 < (s.size : Int)) = false := decide_eq_false (by omega)
      by_cases hdg : 48 ≤ x ∧ x ≤ 57
      · obtain ⟨d0, d1⟩ := hdg
        obtain rfl : R = false := by cases R; rfl; exact absurd ((HI.out.1 rfl).2.1) (by rw [HD.out.2 ⟨d0, d1⟩]; simp)
        go_enter Tryd.func45, Tryd.ntmps45
        go_wp2
        go_returns
        exact ⟨rfl, rfl⟩
      · have HN : Hid (Lx.dgt s[0] = false) := Lib.hid (by cases h : Lx.dgt s[0]; rfl; exact absurd (HD.out.1 h) hdg)
        have HI2 : Hid (R = true ↔ Lx.run Lx.ltr s.data.toList = s.size) := Lib.hid (by rw [HI.out]; exact ⟨fun h => h.2.2, fun h => ⟨by omega, HN.out, h⟩⟩)
        clear HI HD HN
        have hq : (48 ≤ x ∧ decide (x ≤ 57) = false) ∨ (decide (48 ≤ x) = false) := by
          by_cases h : 48 ≤ x
          · exact .inl ⟨h, decide_eq_false (by omega)⟩
          · exact .inr (decide_eq_false h)
        clear hdg
        rcases hq with ⟨q1, q2⟩ | q1
        · have q1 : decide (48 ≤ x) = true := decide_eq_true q1
          clear b0 b1
          go_enter Tryd.func45, Tryd.ntmps45
          go_upto_region 4 with fail
          go_loopw [3, 4] (fun ii cc wr => wr = w ∧ ∃ k : Nat, k ≤ s.size ∧ ii = .int .i64 k ∧ Hid (Lx.run Lx.ltr (s.data.toList.drop k) + k = Lx.run Lx.ltr s.data.toList)) (fun ii cc _ => s.size - (intOf ii).toNat)
          case atStart => exact ⟨rfl, 0, Nat.zero_le _, rfl, Lib.hid (by rw [List.drop_zero]; rfl)⟩
          case round =>
            obtain ⟨rfl, k, hk, rfl, HH⟩ := hrel
            have i0 : (0 : Int) ≤ (k : Int) := by omega
            by_cases klt : k < s.size
            · have i1 : (k : Int) < s.size := by omega
              have HD := Lib.hid (drop_at s k klt)
              have HL := ltr_iff s[k]
              have b := u8c s[k]
              obtain ⟨x, hx⟩ : ∃ x : Int, ((s[k]).toNat : Int) = x := ⟨_, rfl⟩
              rw [hx] at b HL
              obtain ⟨b0, b1⟩ := b
              have HL := Lib.hid HL
              have hc : (0 ≤ x ∧ x ≤ 47) ∨ (48 ≤ x ∧ x ≤ 57) ∨ (58 ≤ x ∧ x ≤ 64) ∨ (65 ≤ x ∧ x ≤ 90) ∨ (91 ≤ x ∧ x ≤ 94) ∨ (95 ≤ x ∧ x ≤ 95) ∨ (96 ≤ x ∧ x ≤ 96) ∨ (97 ≤ x ∧ x ≤ 122) ∨ (123 ≤ x ∧ x ≤ 255) := by omega
              rcases hc with ⟨a1, a2⟩ | ⟨a1, a2⟩ | ⟨a1, a2⟩ | ⟨a1, a2⟩ | ⟨a1, a2⟩ | ⟨a1, a2⟩ | ⟨a1, a2⟩ | ⟨a1, a2⟩ | ⟨a1, a2⟩
              · have g48 : decide (x < 48) = true := by simp; omega
                have g65 : decide (x < 65) = true := by simp; omega
                have g97 : decide (x < 97) = true := by simp; omega
                have l57 : decide (57 < x) = false := by simp; omega
                have l90 : decide (90 < x) = false := by simp; omega
                have l122 : decide (122 < x) = false := by simp; omega
                have e95 : (x != 95) = true := by simp; omega
                obtain rfl : R = false := by
                  cases R
                  · rfl
                  · have e := HI2.out.1 rfl
                    have := HH.out
                    have hn : Lx.ltr s[k] = false := by cases h : Lx.ltr s[k]; rfl; exact absurd (HL.out.1 h) (by omega)
                    rw [HD.out, Lx.run_cons, hn, e] at this
                    simp at this
                    omega
                clear a1 a2 b0 b1
                go_wp2
                go_returns
                exact ⟨rfl, rfl⟩
              · have g48 : decide (x < 48) = false := by simp; omega
                have g65 : decide (x < 65) = true := by simp; omega
                have g97 : decide (x < 97) = true := by simp; omega
                have l57 : decide (57 < x) = false := by simp; omega
                have l90 : decide (90 < x) = false := by simp; omega
                have l122 : decide (122 < x) = false := by simp; omega
                have e95 : (x != 95) = true := by simp; omega
                have HH2 : Hid (Lx.run Lx.ltr (s.data.toList.drop (k + 1)) + (k + 1) = Lx.run Lx.ltr s.data.toList) := Lib.hid (by
                  have := HH.out
                  rw [HD.out, Lx.run_cons, HL.out.2 (by omega), if_pos rfl] at this
                  omega)
                clear a1 a2 b0 b1
                go_wp2
                go_roundw
                case rel => exact ⟨trivial, k + 1, by omega, by go_num, HH2⟩
                case measure => simp [intOf]; omega
              · have g48 : decide (x < 48) = false := by simp; omega
                have g65 : decide (x < 65) = true := by simp; omega
                have g97 : decide (x < 97) = true := by simp; omega
                have l57 : decide (57 < x) = true := by simp; omega
                have l90 : decide (90 < x) = false := by simp; omega
                have l122 : decide (122 < x) = false := by simp; omega
                have e95 : (x != 95) = true := by simp; omega
                obtain rfl : R = false := by
                  cases R
                  · rfl
                  · have e := HI2.out.1 rfl
                    have := HH.out
                    have hn : Lx.ltr s[k] = false := by cases h : Lx.ltr s[k]; rfl; exact absurd (HL.out.1 h) (by omega)
                    rw [HD.out, Lx.run_cons, hn, e] at this
                    simp at this
                    omega
                clear a1 a2 b0 b1
                go_wp2
                go_returns
                exact ⟨rfl, rfl⟩
              · have g48 : decide (x < 48) = false := by simp; omega
                have g65 : decide (x < 65) = false := by simp; omega
                have g97 : decide (x < 97) = true := by simp; omega
                have l57 : decide (57 < x) = true := by simp; omega
                have l90 : decide (90 < x) = false := by simp; omega
                have l122 : decide (122 < x) = false := by simp; omega
                have e95 : (x != 95) = true := by simp; omega
                have HH2 : Hid (Lx.run Lx.ltr (s.data.toList.drop (k + 1)) + (k + 1) = Lx.run Lx.ltr s.data.toList) := Lib.hid (by
                  have := HH.out
                  rw [HD.out, Lx.run_cons, HL.out.2 (by omega), if_pos rfl] at this
                  omega)
                clear a1 a2 b0 b1
                go_wp2
                go_roundw
                case rel => exact ⟨trivial, k + 1, by omega, by go_num, HH2⟩
                case measure => simp [intOf]; omega
              · have g48 : decide (x < 48) = false := by simp; omega
                have g65 : decide (x < 65) = false := by simp; omega
                have g97 : decide (x < 97) = true := by simp; omega
                have l57 : decide (57 < x) = true := by simp; omega
                have l90 : decide (90 < x) = true := by simp; omega
                have l122 : decide (122 < x) = false := by simp; omega
                have e95 : (x != 95) = true := by simp; omega
                obtain rfl : R = false := by
                  cases R
                  · rfl
                  · have e := HI2.out.1 rfl
                    have := HH.out
                    have hn : Lx.ltr s[k] = false := by cases h : Lx.ltr s[k]; rfl; exact absurd (HL.out.1 h) (by omega)
                    rw [HD.out, Lx.run_cons, hn, e] at this
                    simp at this
                    omega
                clear a1 a2 b0 b1
                go_wp2
                go_returns
                exact ⟨rfl, rfl⟩
              · have g48 : decide (x < 48) = false := by simp; omega
                have g65 : decide (x < 65) = false := by simp; omega
                have g97 : decide (x < 97) = true := by simp; omega
                have l57 : decide (57 < x) = true := by simp; omega
                have l90 : decide (90 < x) = true := by simp; omega
                have l122 : decide (122 < x) = false := by simp; omega
                have e95 : (x != 95) = false := by simp; omega
                have HH2 : Hid (Lx.run Lx.ltr (s.data.toList.drop (k + 1)) + (k + 1) = Lx.run Lx.ltr s.data.toList) := Lib.hid (by
                  have := HH.out
                  rw [HD.out, Lx.run_cons, HL.out.2 (by omega), if_pos rfl] at this
                  omega)
                clear a1 a2 b0 b1
                go_wp2
                go_roundw
                case rel => exact ⟨trivial, k + 1, by omega, by go_num, HH2⟩
                case measure => simp [intOf]; omega
              · have g48 : decide (x < 48) = false := by simp; omega
                have g65 : decide (x < 65) = false := by simp; omega
                have g97 : decide (x < 97) = true := by simp; omega
                have l57 : decide (57 < x) = true := by simp; omega
                have l90 : decide (90 < x) = true := by simp; omega
                have l122 : decide (122 < x) = false := by simp; omega
                have e95 : (x != 95) = true := by simp; omega
                obtain rfl : R = false := by
                  cases R
                  · rfl
                  · have e := HI2.out.1 rfl
                    have := HH.out
                    have hn : Lx.ltr s[k] = false := by cases h : Lx.ltr s[k]; rfl; exact absurd (HL.out.1 h) (by omega)
                    rw [HD.out, Lx.run_cons, hn, e] at this
                    simp at this
                    omega
                clear a1 a2 b0 b1
                go_wp2
                go_returns
                exact ⟨rfl, rfl⟩
              · have g48 : decide (x < 48) = false := by simp; omega
                have g65 : decide (x < 65) = false := by simp; omega
                have g97 : decide (x < 97) = false := by simp; omega
                have l57 : decide (57 < x) = true := by simp; omega
                have l90 : decide (90 < x) = true := by simp; omega
                have l122 : decide (122 < x) = false := by simp; omega
                have e95 : (x != 95) = true := by simp; omega
                have HH2 : Hid (Lx.run Lx.ltr (s.data.toList.drop (k + 1)) + (k + 1) = Lx.run Lx.ltr s.data.toList) := Lib.hid (by
                  have := HH.out
                  rw [HD.out, Lx.run_cons, HL.out.2 (by omega), if_pos rfl] at this
                  omega)
                clear a1 a2 b0 b1
                go_wp2
                go_roundw
                case rel => exact ⟨trivial, k + 1, by omega, by go_num, HH2⟩
                case measure => simp [intOf]; omega
              · have g48 : decide (x < 48) = false := by simp; omega
                have g65 : decide (x < 65) = false := by simp; omega
                have g97 : decide (x < 97) = false := by simp; omega
                have l57 : decide (57 < x) = true := by simp; omega
                have l90 : decide (90 < x) = true := by simp; omega
                have l122 : decide (122 < x) = true := by simp; omega
                have e95 : (x != 95) = true := by simp; omega
                obtain rfl : R = false := by
                  cases R
                  · rfl
                  · have e := HI2.out.1 rfl
                    have := HH.out
                    have hn : Lx.ltr s[k] = false := by cases h : Lx.ltr s[k]; rfl; exact absurd (HL.out.1 h) (by omega)
                    rw [HD.out, Lx.run_cons, hn, e] at this
                    simp at this
                    omega
                clear a1 a2 b0 b1
                go_wp2
                go_returns
                exact ⟨rfl, rfl⟩
            · have i1 : (s.size : Int) ≤ (k : Int) := by omega
              obtain rfl : R = true := by
                refine HI2.out.2 ?_
                have := HH.out
                rw [List.drop_of_length_le (by rw [← Lib.size_eq]; omega), Lx.run_nil] at this
                omega
              go_wp2
              go_returns
              exact ⟨rfl, rfl⟩
        · clear b0 b1
          go_enter Tryd.func45, Tryd.ntmps45
          go_upto_region 4 with fail
          go_loopw [3, 4] (fun ii cc wr => wr = w ∧ ∃ k : Nat, k ≤ s.size ∧ ii = .int .i64 k ∧ Hid (Lx.run Lx.ltr (s.data.toList.drop k) + k = Lx.run Lx.ltr s.data.toList)) (fun ii cc _ => s.size - (intOf ii).toNat)
          case atStart => exact ⟨rfl, 0, Nat.zero_le _, rfl, Lib.hid (by rw [List.drop_zero]; rfl)⟩
          case round =>
            obtain ⟨rfl, k, hk, rfl, HH⟩ := hrel
            have i0 : (0 : Int) ≤ (k : Int) := by omega
            by_cases klt : k < s.size
            · have i1 : (k : Int) < s.size := by omega
              have HD := Lib.hid (drop_at s k klt)
              have HL := ltr_iff s[k]
              have b := u8c s[k]
              obtain ⟨x, hx⟩ : ∃ x : Int, ((s[k]).toNat : Int) = x := ⟨_, rfl⟩
              rw [hx] at b HL
              obtain ⟨b0, b1⟩ := b
              have HL := Lib.hid HL
              have hc : (0 ≤ x ∧ x ≤ 47) ∨ (48 ≤ x ∧ x ≤ 57) ∨ (58 ≤ x ∧ x ≤ 64) ∨ (65 ≤ x ∧ x ≤ 90) ∨ (91 ≤ x ∧ x ≤ 94) ∨ (95 ≤ x ∧ x ≤ 95) ∨ (96 ≤ x ∧ x ≤ 96) ∨ (97 ≤ x ∧ x ≤ 122) ∨ (123 ≤ x ∧ x ≤ 255) := by omega
              rcases hc with ⟨a1, a2⟩ | ⟨a1, a2⟩ | ⟨a1, a2⟩ | ⟨a1, a2⟩ | ⟨a1, a2⟩ | ⟨a1, a2⟩ | ⟨a1, a2⟩ | ⟨a1, a2⟩ | ⟨a1, a2⟩
              · have g48 : decide (x < 48) = true := by simp; omega
                have g65 : decide (x < 65) = true := by simp; omega
                have g97 : decide (x < 97) = true := by simp; omega
                have l57 : decide (57 < x) = false := by simp; omega
                have l90 : decide (90 < x) = false := by simp; omega
                have l122 : decide (122 < x) = false := by simp; omega
                have e95 : (x != 95) = true := by simp; omega
                obtain rfl : R = false := by
                  cases R
                  · rfl
                  · have e := HI2.out.1 rfl
                    have := HH.out
                    have hn : Lx.ltr s[k] = false := by cases h : Lx.ltr s[k]; rfl; exact absurd (HL.out.1 h) (by omega)
                    rw [HD.out, Lx.run_cons, hn, e] at this
                    simp at this
                    omega
                clear a1 a2 b0 b1
                go_wp2
                go_returns
                exact ⟨rfl, rfl⟩
              · have g48 : decide (x < 48) = false := by simp; omega
                have g65 : decide (x < 65) = true := by simp; omega
                have g97 : decide (x < 97) = true := by simp; omega
                have l57 : decide (57 < x) = false := by simp; omega
                have l90 : decide (90 < x) = false := by simp; omega
                have l122 : decide (122 < x) = false := by simp; omega
                have e95 : (x != 95) = true := by simp; omega
                have HH2 : Hid (Lx.run Lx.ltr (s.data.toList.drop (k + 1)) + (k + 1) = Lx.run Lx.ltr s.data.toList) := Lib.hid (by
                  have := HH.out
                  rw [HD.out, Lx.run_cons, HL.out.2 (by omega), if_pos rfl] at this
                  omega)
                clear a1 a2 b0 b1
                go_wp2
                go_roundw
                case rel => exact ⟨trivial, k + 1, by omega, by go_num, HH2⟩
                case measure => simp [intOf]; omega
              · have g48 : decide (x < 48) = false := by simp; omega
                have g65 : decide (x < 65) = true := by simp; omega
                have g97 : decide (x < 97) = true := by simp; omega
                have l57 : decide (57 < x) = true := by simp; omega
                have l90 : decide (90 < x) = false := by simp; omega
                have l122 : decide (122 < x) = false := by simp; omega
                have e95 : (x != 95) = true := by simp; omega
                obtain rfl : R = false := by
                  cases R
                  · rfl
                  · have e := HI2.out.1 rfl
                    have := HH.out
                    have hn : Lx.ltr s[k] = false := by cases h : Lx.ltr s[k]; rfl; exact absurd (HL.out.1 h) (by omega)
                    rw [HD.out, Lx.run_cons, hn, e] at this
                    simp at this
                    omega
                clear a1 a2 b0 b1
                go_wp2
                go_returns
                exact ⟨rfl, rfl⟩
              · have g48 : decide (x < 48) = false := by simp; omega
                have g65 : decide (x < 65) = false := by simp; omega
                have g97 : decide (x < 97) = true := by simp; omega
                have l57 : decide (57 < x) = true := by simp; omega
                have l90 : decide (90 < x) = false := by simp; omega
                have l122 : decide (122 < x) = false := by simp; omega
                have e95 : (x != 95) = true := by simp; omega
                have HH2 : Hid (Lx.run Lx.ltr (s.data.toList.drop (k + 1)) + (k + 1) = Lx.run Lx.ltr s.data.toList) := Lib.hid (by
                  have := HH.out
                  rw [HD.out, Lx.run_cons, HL.out.2 (by omega), if_pos rfl] at this
                  omega)
                clear a1 a2 b0 b1
                go_wp2
                go_roundw
                case rel => exact ⟨trivial, k + 1, by omega, by go_num, HH2⟩
                case measure => simp [intOf]; omega
              · have g48 : decide (x < 48) = false := by simp; omega
                have g65 : decide (x < 65) = false := by simp; omega
                have g97 : decide (x < 97) = true := by simp; omega
                have l57 : decide (57 < x) = true := by simp; omega
                have l90 : decide (90 < x) = true := by simp; omega
                have l122 : decide (122 < x) = false := by simp; omega
                have e95 : (x != 95) = true := by simp; omega
                obtain rfl : R = false := by
                  cases R
                  · rfl
                  · have e := HI2.out.1 rfl
                    have := HH.out
                    have hn : Lx.ltr s[k] = false := by cases h : Lx.ltr s[k]; rfl; exact absurd (HL.out.1 h) (by omega)
                    rw [HD.out, Lx.run_cons, hn, e] at this
                    simp at this
                    omega
                clear a1 a2 b0 b1
                go_wp2
                go_returns
                exact ⟨rfl, rfl⟩
              · have g48 : decide (x < 48) = false := by simp; omega
                have g65 : decide (x < 65) = false := by simp; omega
                have g97 : decide (x < 97) = true := by simp; omega
                have l57 : decide (57 < x) = true := by simp; omega
                have l90 : decide (90 < x) = true := by simp; omega
                have l122 : decide (122 < x) = false := by simp; omega
                have e95 : (x != 95) = false := by simp; omega
                have HH2 : Hid (Lx.run Lx.ltr (s.data.toList.drop (k + 1)) + (k + 1) = Lx.run Lx.ltr s.data.toList) := Lib.hid (by
                  have := HH.out
                  rw [HD.out, Lx.run_cons, HL.out.2 (by omega), if_pos rfl] at this
                  omega)
                clear a1 a2 b0 b1
                go_wp2
                go_roundw
                case rel => exact ⟨trivial, k + 1, by omega, by go_num, HH2⟩
                case measure => simp [intOf]; omega
              · have g48 : decide (x < 48) = false := by simp; omega
                have g65 : decide (x < 65) = false := by simp; omega
                have g97 : decide (x < 97) = true := by simp; omega
                have l57 : decide (57 < x) = true := by simp; omega
                have l90 : decide (90 < x) = true := by simp; omega
                have l122 : decide (122 < x) = false := by simp; omega
                have e95 : (x != 95) = true := by simp; omega
                obtain rfl : R = false := by
                  cases R
                  · rfl
                  · have e := HI2.out.1 rfl
                    have := HH.out
                    have hn : Lx.ltr s[k] = false := by cases h : Lx.ltr s[k]; rfl; exact absurd (HL.out.1 h) (by omega)
                    rw [HD.out, Lx.run_cons, hn, e] at this
                    simp at this
                    omega
                clear a1 a2 b0 b1
                go_wp2
                go_returns
                exact ⟨rfl, rfl⟩
              · have g48 : decide (x < 48) = false := by simp; omega
                have g65 : decide (x < 65) = false := by simp; omega
                have g97 : decide (x < 97) = false := by simp; omega
                have l57 : decide (57 < x) = true := by simp; omega
                have l90 : decide (90 < x) = true := by simp; omega
                have l122 : decide (122 < x) = false := by simp; omega
                have e95 : (x != 95) = true := by simp; omega
                have HH2 : Hid (Lx.run Lx.ltr (s.data.toList.drop (k + 1)) + (k + 1) = Lx.run Lx.ltr s.data.toList) := Lib.hid (by
                  have := HH.out
                  rw [HD.out, Lx.run_cons, HL.out.2 (by omega), if_pos rfl] at this
                  omega)
                clear a1 a2 b0 b1
                go_wp2
                go_roundw
                case rel => exact ⟨trivial, k + 1, by omega, by go_num, HH2⟩
                case measure => simp [intOf]; omega
              · have g48 : decide (x < 48) = false := by simp; omega
                have g65 : decide (x < 65) = false := by simp; omega
                have g97 : decide (x < 97) = false := by simp; omega
                have l57 : decide (57 < x) = true := by simp; omega
                have l90 : decide (90 < x) = true := by simp; omega
                have l122 : decide (122 < x) = true := by simp; omega
                have e95 : (x != 95) = true := by simp; omega
                obtain rfl : R = false := by
                  cases R
                  · rfl
                  · have e := HI2.out.1 rfl
                    have := HH.out
                    have hn : Lx.ltr s[k] = false := by cases h : Lx.ltr s[k]; rfl; exact absurd (HL.out.1 h) (by omega)
                    rw [HD.out, Lx.run_cons, hn, e] at this
                    simp at this
                    omega
                clear a1 a2 b0 b1
                go_wp2
                go_returns
                exact ⟨rfl, rfl⟩
            · have i1 : (s.size : Int) ≤ (k : Int) := by omega
              obtain rfl : R = true := by
                refine HI2.out.2 ?_
                have := HH.out
                rw [List.drop_of_length_le (by rw [← Lib.size_eq]; omega), Lx.run_nil] at this
                omega
              go_wp2
              go_returns
              exact ⟨rfl, rfl⟩
    · have h1' : decide (30 < (s.size : Int)) = true := decide_eq_true (by omega)
      obtain rfl : R = false := by cases R; rfl; exact absurd (HI.out.1 rfl).1 (by omega)
      go_enter Tryd.func45, Tryd.ntmps45
      go_wp2
      go_returns
      exact ⟨rfl, rfl⟩
  · have h0' : decide ((s.size : Int) < 1) = true := decide_eq_true (by omega)
    obtain rfl : R = false := by
      rw [← hR]; unfold Lx.nameOk
      rw [decide_eq_false_iff_not, ← Lib.size_eq]
      rintro ⟨a, _⟩; omega
    clear hR
    go_enter Tryd.func45, Tryd.ntmps45
    go_wp2
    go_returns
    exact ⟨rfl, rfl⟩
end Go.Proofs.YtllhcpkpbipjlaaDoor
