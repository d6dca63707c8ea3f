/- Ported. -/
import Derived.Test.YtaobhhgalkkmaaaSp1
import Derived.BigQuiet
import Derived.BigRegion
import Derived.Deep.DeepCutAuto
import Derived.Deep.DeepFit
import Derived.Deep.QuietTactic
import Derived.Deep.RegionHeld3
import Derived.Handy
import Derived.Laws.AppendOwn
import Derived.Laws.Bits64b
import Derived.Lib.Hide
import Derived.Lib.Mul64
import Derived.Maps.AppendAt
import Derived.OpenShut
import Derived.Outline
import Derived.OwnWalk
import Derived.ProofKit
import Derived.ScopeJumps
import Derived.WalkKit
import Derived.WalkMore
import Derived.WalkSpells
namespace Go.Proofs.Ytaobhhgalkkmaaa
set_option linter.unusedVariables false
set_option linter.unusedSimpArgs false
open Go.ChangeShapes Go.WideShapes Go.ChangeAt Go.RowKit
theorem end_at (b p n c k : Nat) (z t : Int) (x y : Nat) (w : World) (hk : k < n) (hz : w.cell? ⟨b, p + k * 2 + 1, none⟩ = some (.int .i64 z)) (hx : w.cell? ⟨x, 0, none⟩ = some (.slice (some ⟨b, p, none⟩) n c)) (hy : w.cell? ⟨y, 0, none⟩ = some (.int .i64 t)) :
    Calls Try.prog 69 #[.int .i64 k, .pointer (some ⟨x, 0, none⟩), .pointer (some ⟨y, 0, none⟩)] w fun e w' => e = .returned (.bool (decide (t ≤ z))) ∧ Below w.heap.size w w' := by
  have k0 : (0 : Int) ≤ (k : Int) := by omega
  have k1 : (k : Int) < (n : Int) := by omega
  go_enter Try.func69, Try.ntmps69
  go_wp2
  go_quiet (fail)
  go_wp2
  go_returns
  exact ⟨rfl, below_drewN (Below.refl _ _) _⟩
theorem search_end (ao : Option Addr) (n c : Nat) (l : List Sp) (t : Int) (x y : Nat) (w : World) (hw : SpAt w ao n c l) (hg : Good l) (hx : w.cell? ⟨x, 0, none⟩ = some (.slice ao n c)) (hy : w.cell? ⟨y, 0, none⟩ = some (.int .i64 t)) (hn : n ≤ 1099511627776) :
    Calls Try.prog 68 #[.int .i64 n, .func (.func 69) #[] #[.pointer (some ⟨x, 0, none⟩), .pointer (some ⟨y, 0, none⟩)]] w fun e w' => ∃ i : Nat, i ≤ n ∧ e = .returned (.int .i64 i) ∧ Hid (EndIs l t i) ∧ Hid (Below w.heap.size w w') := by
  have HW := Lib.hid hw
  have HG := Lib.hid hg
  have HX := Lib.hid hx
  have HY := Lib.hid hy
  have HLN := Lib.hid hw.len
  clear hw hg hx hy
  go_enter Try.func68, Try.ntmps68
  go_wp2
  go_loopw [5, 6] (fun i j wr => ∃ a b : Nat, i = .int .i64 a ∧ j = .int .i64 b ∧ a ≤ b ∧ b ≤ n ∧ Hid ((∀ j (h : j < l.length), j < a → l[j].2 < t) ∧ ∀ (h : b < l.length), t ≤ l[b].2) ∧ Hid (Below w.heap.size w wr)) (fun i j _ => (intOf j - intOf i).toNat)
  case atStart => exact ⟨0, n, rfl, rfl, Nat.zero_le _, Nat.le_refl _, Lib.hid ⟨fun j _ h => absurd h (Nat.not_lt_zero _), fun h => by have := HLN.out; omega⟩, Lib.hid (Below.refl _ _)⟩
  case round =>
    obtain ⟨a, b, rfl, rfl, hab, hbn, HI, HB⟩ := hrel
    by_cases hlt : a < b
    · obtain ⟨m, hm⟩ : ∃ m : Nat, (a + b) / 2 = m := ⟨_, rfl⟩
      have hm1 : a ≤ m := by omega
      have hm2 : m < b := by omega
      have hmi : ((a : Int) + (b : Int)) / 2 = (m : Int) := by omega
      obtain ⟨g, p, rfl, hc⟩ := HW.out.here (by omega)
      have hml : m < l.length := by rw [HLN.out]; omega
      have HC := Lib.hid (fun (w' : World) (hb : Below w.heap.size w w') => end_at g p n c m _ t x y w' (by omega) (cell_keep (hc m hml).2 hb) (cell_keep HX.out hb) (cell_keep HY.out hb))
      have HL : Hid (∀ j (h : j < l.length), j ≤ m → l[j].2 ≤ l[m].2) := Lib.hid (fun j h q => good_le HG.out j m h hml q)
      clear hm hc
      obtain ⟨z, hz⟩ : ∃ q, l[m].2 = q := ⟨_, rfl⟩
      have HZ := Lib.hid hz
      rw [hz] at HC HL
      clear hz
      by_cases hq : t ≤ z
      · have HI2 : Hid ((∀ j (h : j < l.length), j < a → l[j].2 < t) ∧ ∀ (h : m < l.length), t ≤ l[m].2) := Lib.hid ⟨HI.out.1, fun h => by rw [HZ.out]; exact hq⟩
        have HC2 : Hid (∀ w', Below w.heap.size w w' → Calls Try.prog 69 #[.int .i64 m, .pointer (some ⟨x, 0, none⟩), .pointer (some ⟨y, 0, none⟩)] w' fun e w'' => e = .returned (.bool true) ∧ Below w'.heap.size w' w'') := by
          rw [decide_eq_true hq] at HC; exact HC
        clear HC HI
        go_wp2_with (go_at_call 69; (with_reducible refine (HC2.out _ HB.out).mono ?_); rintro e w1 ⟨rfl, b1⟩; have HB1 := Lib.hid (HB.out.trans (b1.mono HB.out.size)); clear b1)
        go_roundw
        case rel => exact ⟨a, m, rfl, rfl, hm1, by omega, HI2, HB1⟩
        case measure => simp [intOf]; omega
      · have HI2 : Hid ((∀ j (h : j < l.length), j < m + 1 → l[j].2 < t) ∧ ∀ (h : b < l.length), t ≤ l[b].2) := Lib.hid ⟨fun j h q => by have := HL.out j h (by omega); omega, HI.out.2⟩
        have HC2 : Hid (∀ w', Below w.heap.size w w' → Calls Try.prog 69 #[.int .i64 m, .pointer (some ⟨x, 0, none⟩), .pointer (some ⟨y, 0, none⟩)] w' fun e w'' => e = .returned (.bool false) ∧ Below w'.heap.size w' w'') := by
          rw [decide_eq_false hq] at HC; exact HC
        clear HC HI
        go_wp2_with (go_at_call 69; (with_reducible refine (HC2.out _ HB.out).mono ?_); rintro e w1 ⟨rfl, b1⟩; have HB1 := Lib.hid (HB.out.trans (b1.mono HB.out.size)); clear b1)
        go_roundw
        case rel => exact ⟨m + 1, b, by go_num, rfl, by omega, hbn, HI2, HB1⟩
        case measure => simp [intOf]; omega
    · obtain rfl : a = b := by omega
      go_wp2
      go_returns
      exact ⟨a, hbn, rfl, Lib.hid ⟨HI.out.1, HI.out.2⟩, HB⟩
theorem ending_any (ao : Option Addr) (n c : Nat) (l : List Sp) (t : Int) (w : World) (hw : SpAt w ao n c l) (hg : Good l) (hn : n ≤ 1099511627776) :
    Calls Try.prog 55 #[.slice ao n c, .int .i64 t] w fun e w' => ∃ i : Nat, i ≤ n ∧ e = .returned (.int .i64 i) ∧ Hid (EndIs l t i) ∧ Hid (Below w.heap.size w w') := by
  have b1 := (Below.refl _ w).alloc (Nat.le_refl _) (.cells #[.slice ao n c] 58)
  have b2 := (Below.refl _ (w.alloc (.cells #[.slice ao n c] 58))).alloc (Nat.le_refl _) (.cells #[.int .i64 t] 3)
  have b3 := b1.trans (b2.mono (by simp))
  have c1 := cell_keep (box_one w (.slice ao n c) 58) b2
  have c2 := box_one (w.alloc (.cells #[.slice ao n c] 58)) (.int .i64 t) 3
  rw [show (w.alloc (.cells #[.slice ao n c] 58)).heap.size = w.heap.size + 1 by simp] at c2
  have S := Lib.hid (search_end ao n c l t w.heap.size (w.heap.size + 1) _ (hw.keep b3) hg c1 c2 hn)
  have HB := Lib.hid b3
  have HC := Lib.hid (And.intro c1 c2)
  clear b1 b2 b3 c1 c2 hw hg
  go_enter Try.func55, Try.ntmps55
  go_wp2_with (go_at_call 68; (with_reducible refine (S.out).mono ?_); rintro e w1 ⟨i, hi, rfl, HI, HB1⟩)
  go_returns
  exact ⟨i, hi, rfl, HI, Lib.hid (HB.out.trans (HB1.out.mono HB.out.size))⟩
theorem has_any (ao : Option Addr) (n c : Nat) (l : List Sp) (t : Int) (w : World) (hw : SpAt w ao n c l) (hg : Good l) (hn : n ≤ 1099511627776) (r : Bool) (hr : r = true ↔ mem l t) :
    Calls Try.prog 39 #[.slice ao n c, .int .i64 t] w fun e w' => e = .returned (.bool r) ∧ Below w.heap.size w w' := by
  have E := Lib.hid (ending_any ao n c l t w hw hg hn)
  have HW := Lib.hid hw
  have HR := Lib.hid hr
  have HG := Lib.hid hg
  have HLN := Lib.hid hw.len
  clear hw hr hg
  go_enter Try.func39, Try.ntmps39
  go_upto_region 2 with (go_at_call 55; (with_reducible refine (E.out).mono ?_); rintro e w1 ⟨i, hi, rfl, HI, HB⟩)
  by_cases hlt : i < n
  · obtain ⟨b, p, rfl, hc⟩ := HW.out.here (by omega)
    have hil : i < l.length := by rw [HLN.out]; exact hlt
    have c1 := cell_keep (hc i hil).1 HB.out
    have HE : Hid (decide (l[i].1 ≤ t) = r) := Lib.hid (by
      have q := end_mem HG.out HI.out
      by_cases z : l[i].1 ≤ t
      · rw [decide_eq_true z]; exact (HR.out.2 (q.2 ⟨hil, z⟩)).symm
      · rw [decide_eq_false z]
        cases r
        · rfl
        · obtain ⟨_, z'⟩ := q.1 (HR.out.1 rfl); exact absurd z' z)
    obtain ⟨z, hz⟩ : ∃ q, l[i].1 = q := ⟨_, rfl⟩
    rw [hz] at c1 HE
    clear hz hc
    have i0 : (0 : Int) ≤ (i : Int) := by omega
    have i1 : (i : Int) < (n : Int) := by omega
    go_wp2
    go_returns
    exact ⟨ret_bool HE.out, HB.out⟩
  · have HE : Hid (false = r) := Lib.hid (by
      cases r
      · rfl
      · obtain ⟨z', _⟩ := (end_mem HG.out HI.out).1 (HR.out.1 rfl); have := HLN.out; omega)
    go_wp2
    go_returns
    exact ⟨ret_bool HE.out, HB.out⟩
end Go.Proofs.Ytaobhhgalkkmaaa
