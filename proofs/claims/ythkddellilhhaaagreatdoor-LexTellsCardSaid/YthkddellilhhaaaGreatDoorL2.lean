/- lex: runs; right names. -/
import Derived.Test.YthkddellilhhaaaGreatDoorL1
namespace Go.Proofs.YthkddellilhhaaaGreatDoor
set_option linter.unusedVariables false
set_option linter.unusedSimpArgs false
open Go.ChangeShapes Go.WideShapes Go.ChangeAt Go.RowKit
theorem get_list (s : ByteArray) (k : Nat) (h : k < s.size) : s.data.toList[k]'(by rw [← Lib.size_eq]; exact h) = s[k] := rfl
theorem drop_at (s : ByteArray) (k : Nat) (h : k < s.size) : s.data.toList.drop k = s[k] :: s.data.toList.drop (k + 1) := by
  rw [List.drop_eq_getElem_cons (by rw [← Lib.size_eq]; exact h), get_list]
set_option maxHeartbeats 1000000 in
theorem run_any (p : UInt8 → Bool) (K : FuncId) (hE : ∀ (args : Array Value) (w : World), (callFunc K args).run Tryz.prog w = .ok (.enter K args) w) (hK : ∀ (c : UInt8) (w : World), Calls Tryz.prog K #[.int .u8 (c.toNat : Int)] w fun e w' => e = .returned (.bool (p c)) ∧ w = w') (s : ByteArray) (w : World) (hs : s.size ≤ maxLen) :
    Calls Tryz.prog 30 #[.string s, .func (.func K) #[] #[]] w fun e w' => e = .returned (.int .i64 (Lx.run p s.data.toList : Nat)) ∧ w = w' := by
  unfold maxLen at hs
  have HK := Lib.hid hK
  obtain ⟨R, hR⟩ : ∃ R, Lx.run p s.data.toList = R := ⟨_, rfl⟩
  have HR := Lib.hid hR
  rw [hR]
  clear hK hR
  go_enter Tryz.func30, Tryz.ntmps30
  go_wp2
  go_loop [5] (fun ii => ∃ k : Nat, k ≤ s.size ∧ ii = .int .i64 k ∧ Hid (Lx.run p (s.data.toList.drop k) + k = R)) (fun ii => s.size - (intOf ii).toNat)
  case atStart => exact ⟨0, Nat.zero_le _, rfl, Lib.hid (by rw [List.drop_zero, HR.out]; rfl)⟩
  case round =>
    obtain ⟨k, hk, rfl, HH⟩ := hrel
    have i0 : (0 : Int) ≤ (k : Int) := by omega
    by_cases klt : k < s.size
    · have i1 : (k : Int) < s.size := by omega
      have HC := Lib.hid (HK.out s[k] w)
      have HD := Lib.hid (drop_at s k klt)
      obtain ⟨x, hx⟩ : ∃ x : Int, ((s[k]).toNat : Int) = x := ⟨_, rfl⟩
      obtain ⟨r, hr⟩ : ∃ r, p s[k] = r := ⟨_, rfl⟩
      rw [hx, hr] at HC
      have HPR := Lib.hid hr
      clear hr
      cases r
      · obtain rfl : k = R := by
          have := HH.out
          rw [HD.out, Lx.run_cons, HPR.out] at this
          simpa using this
        go_wp2_with (first | ((with_reducible refine HC.out.mono ?_); rintro e w' ⟨rfl, rfl⟩))
        go_returns
        exact ⟨rfl, rfl⟩
      · have HH2 : Hid (Lx.run p (s.data.toList.drop (k + 1)) + (k + 1) = R) := Lib.hid (by
          have := HH.out
          rw [HD.out, Lx.run_cons, HPR.out, if_pos rfl] at this
          omega)
        go_wp2_with (first | ((with_reducible refine HC.out.mono ?_); rintro e w' ⟨rfl, rfl⟩))
        go_round
        case rel => exact ⟨k + 1, by omega, by go_num, HH2⟩
        case measure => simp [intOf]; omega
    · have i1 : (s.size : Int) ≤ (k : Int) := by omega
      obtain rfl : k = R := by
        have := HH.out
        rw [List.drop_of_length_le (by rw [← Lib.size_eq]; omega), Lx.run_nil] at this
        omega
      go_wp2
      go_returns
      exact ⟨rfl, rfl⟩
theorem enters27 : ∀ (args : Array Value) (w : World), (callFunc 28 args).run Tryz.prog w = .ok (.enter 28 args) w := enters_of Tryz.func28 (by kernel_rfl) rfl
theorem enters29 : ∀ (args : Array Value) (w : World), (callFunc 31 args).run Tryz.prog w = .ok (.enter 31 args) w := enters_of Tryz.func31 (by kernel_rfl) rfl
theorem enters48 : ∀ (args : Array Value) (w : World), (callFunc 47 args).run Tryz.prog w = .ok (.enter 47 args) w := enters_of Tryz.func47 (by kernel_rfl) rfl
theorem runD (s : ByteArray) (w : World) (hs : s.size ≤ maxLen) : Calls Tryz.prog 30 #[.string s, .func (.func 28) #[] #[]] w fun e w' => e = .returned (.int .i64 (Lx.run Lx.dgt s.data.toList : Nat)) ∧ w = w' := run_any Lx.dgt 28 enters27 digit_any s w hs
theorem runL (s : ByteArray) (w : World) (hs : s.size ≤ maxLen) : Calls Tryz.prog 30 #[.string s, .func (.func 31) #[] #[]] w fun e w' => e = .returned (.int .i64 (Lx.run Lx.ltr s.data.toList : Nat)) ∧ w = w' := run_any Lx.ltr 31 enters29 letter_any s w hs
theorem runT (s : ByteArray) (w : World) (hs : s.size ≤ maxLen) : Calls Tryz.prog 30 #[.string s, .func (.func 47) #[] #[]] w fun e w' => e = .returned (.int .i64 (Lx.run Lx.dlt s.data.toList : Nat)) ∧ w = w' := run_any Lx.dlt 47 enters48 dlt_any s w hs
theorem name_iff (s : ByteArray) (h0 : 0 < s.size) : Lx.nameOk s.data.toList = true ↔ s.size ≤ 30 ∧ Lx.dgt s[0] = false ∧ Lx.run Lx.ltr s.data.toList = s.size := by
  unfold Lx.nameOk
  rw [decide_eq_true_iff, ← Lib.size_eq]
  have e : s.data.toList[0]? = some s[0] := by rw [List.getElem?_eq_getElem (by rw [← Lib.size_eq]; exact h0), get_list]
  constructor
  · rintro ⟨a, b, c, d⟩; exact ⟨b, c _ e, d⟩
  · rintro ⟨b, c, d⟩
    exact ⟨h0, b, fun x hx => by rw [e] at hx; cases hx; exact c, d⟩
set_option maxHeartbeats 1000000 in
theorem name_any (s : ByteArray) (w : World) (hs : s.size ≤ maxLen) : Calls Tryz.prog 17 #[.string s] w fun e w' => e = .returned (.bool (Lx.nameOk s.data.toList)) ∧ w = w' := by
  have HRL := Lib.hid (runL s w hs)
  unfold maxLen at hs
  obtain ⟨r, hr⟩ : ∃ r, Lx.nameOk s.data.toList = r := ⟨_, rfl⟩
  rw [hr]
  by_cases h0 : 0 < s.size
  · have h0' : (1 : Int) ≤ s.size := by omega
    have h0'' : (0 : Int) < s.size := by omega
    have hi := name_iff s h0
    rw [hr] at hi
    have HI := Lib.hid hi
    have HD := Lib.hid (digit_any s[0] w)
    obtain ⟨x, hx⟩ : ∃ x : Int, ((s[0]).toNat : Int) = x := ⟨_, rfl⟩
    obtain ⟨q, hq⟩ : ∃ r, Lx.dgt s[0] = r := ⟨_, rfl⟩
    obtain ⟨n, hn⟩ : ∃ n, Lx.run Lx.ltr s.data.toList = n := ⟨_, rfl⟩
    rw [hq, hn] at HI
    rw [hx, hq] at HD
    rw [hn] at HRL
    clear hq hn hi hr
    by_cases h1 : (s.size : Int) ≤ 30
    · cases q
      · by_cases h2 : n = s.size
        · obtain rfl : r = true := HI.out.2 ⟨by omega, rfl, h2⟩
          subst h2
          go_enter Tryz.func17, Tryz.ntmps17
          go_wp2_with (first | ((with_reducible refine HD.out.mono ?_); rintro e w' ⟨rfl, rfl⟩) | ((with_reducible refine HRL.out.mono ?_); rintro e w' ⟨rfl, rfl⟩))
          go_returns
          exact ⟨rfl, rfl⟩
        · have h2' : ((n : Int) == (s.size : Int)) = false := by simp; omega
          obtain rfl : r = false := by cases r; rfl; exact absurd (HI.out.1 rfl).2.2 h2
          go_enter Tryz.func17, Tryz.ntmps17
          go_wp2_with (first | ((with_reducible refine HD.out.mono ?_); rintro e w' ⟨rfl, rfl⟩) | ((with_reducible refine HRL.out.mono ?_); rintro e w' ⟨rfl, rfl⟩))
          go_returns
          exact ⟨rfl, rfl⟩
      · obtain rfl : r = false := by cases r; rfl; exact absurd (HI.out.1 rfl).2.1 (by simp)
        go_enter Tryz.func17, Tryz.ntmps17
        go_wp2_with (first | ((with_reducible refine HD.out.mono ?_); rintro e w' ⟨rfl, rfl⟩) | ((with_reducible refine HRL.out.mono ?_); rintro e w' ⟨rfl, rfl⟩))
        go_returns
        exact ⟨rfl, rfl⟩
    · have h1' : decide ((s.size : Int) ≤ 30) = false := decide_eq_false h1
      obtain rfl : r = false := by cases r; rfl; exact absurd (HI.out.1 rfl).1 (by omega)
      go_enter Tryz.func17, Tryz.ntmps17
      go_wp2
      go_returns
      exact ⟨rfl, rfl⟩
  · have h0' : decide ((1 : Int) ≤ s.size) = false := decide_eq_false (by omega)
    obtain rfl : r = false := by
      rw [← hr]; unfold Lx.nameOk
      rw [decide_eq_false_iff_not, ← Lib.size_eq]
      rintro ⟨a, _⟩; omega
    clear hr
    go_enter Tryz.func17, Tryz.ntmps17
    go_wp2
    go_returns
    exact ⟨rfl, rfl⟩
end Go.Proofs.YthkddellilhhaaaGreatDoor
