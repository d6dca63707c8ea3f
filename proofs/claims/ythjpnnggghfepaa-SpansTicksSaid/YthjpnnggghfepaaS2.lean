/- Sets of spans in memory; contracts of small readers: tick, border, the document's Has. -/
import Derived.Test.YthjpnnggghfepaaRows
import Derived.Test.YthjpnnggghfepaaS1
import Derived.WalkKit
import Derived.ProofKit
import Derived.OpenShut
import Derived.Outline
import Derived.Handy
import Derived.Deep.QuietTactic
import Derived.BigQuiet
import Derived.BigRegion
import Derived.Lib.Mul64
import Derived.Laws.Bits64b
import Derived.WalkMore
import Derived.ScopeJumps
import Derived.Lib.Hide
import Derived.Deep.DeepFit
import Derived.Deep.RegionHeld3
import Derived.Deep.DeepCutAuto
import Derived.Laws.AppendOwn
import Derived.OwnWalk
import Derived.WalkSpells
import Derived.Maps.AppendAt
namespace Go.Proofs.Ythjpnnggghfepaa
set_option linter.unusedVariables false
set_option linter.unusedSimpArgs false
open Go.ChangeShapes Go.WideShapes Go.ChangeAt Go.RowKit
theorem ret_int {k : IntKind} {a b : Int} (h : a = b) : Ending.returned (.int k a) = .returned (.int k b) := by rw [h]
theorem ret_bool {a b : Bool} (h : a = b) : Ending.returned (.bool a) = .returned (.bool b) := by rw [h]
theorem cell_here {w : World} {a : Addr} {v : Value} (h : w.cell? a = some v) : a.block < w.heap.size := by
  rcases Nat.lt_or_ge a.block w.heap.size with h' | h'
  · exact h'
  · unfold World.cell? at h
    rw [Array.getElem?_eq_none h'] at h; simp at h
theorem cell_keep {w w' : World} {a : Addr} {v : Value} (h : w.cell? a = some v) (b : Below w.heap.size w w') : w'.cell? a = some v := by
  rw [← h]
  unfold World.cell?
  rw [b.block a.block (cell_here h)]
theorem below_drewN {B : Nat} {a w : World} (h : Below B a w) (n : Nat) : Below B a (w.drewN n) := ⟨h.os, h.tape, h.output, h.size, h.block⟩
/-- A slice that reads as spans. -/
structure SpAt (w : World) (ao : Option Addr) (n c : Nat) (l : List Sp) : Prop where
  len : l.length = n
  le : n ≤ c
  top : c ≤ 9223372036854775807
  bare : ao = none → n = 0 ∧ c = 0
  here : 0 < n → ∃ b p, ao = some ⟨b, p, none⟩ ∧ ∀ i (h : i < l.length), w.cell? ⟨b, p + i * 2, none⟩ = some (.int .i64 l[i].1) ∧ w.cell? ⟨b, p + i * 2 + 1, none⟩ = some (.int .i64 l[i].2)
theorem SpAt.keep {w w' : World} {ao : Option Addr} {n c : Nat} {l : List Sp} (h : SpAt w ao n c l) (k : Below w.heap.size w w') : SpAt w' ao n c l :=
  ⟨h.len, h.le, h.top, h.bare, fun h0 => by
    obtain ⟨b, p, e, hc⟩ := h.here h0
    exact ⟨b, p, e, fun i hi => ⟨cell_keep (hc i hi).1 k, cell_keep (hc i hi).2 k⟩⟩⟩
theorem SpAt.nil (w : World) : SpAt w none 0 0 [] := ⟨rfl, Nat.le_refl _, by omega, fun _ => ⟨rfl, rfl⟩, fun h => absurd h (Nat.lt_irrefl _)⟩
def tickB (t : Int) : Bool := decide (-1099511627776 ≤ t) && decide (t ≤ 1099511627776)
theorem tick_any (t : Int) (w : World) : Calls Try.prog 36 #[.int .i64 t] w fun e w' => e = .returned (.bool (tickB t)) ∧ w = w' := by
  unfold tickB
  by_cases h1 : -1099511627776 ≤ t
  · have e1 : decide (-1099511627776 ≤ t) = true := decide_eq_true h1
    go_enter Try.func36, Try.ntmps36
    go_wp2
    go_returns
    exact ⟨by first | rfl | (rw [e1]; rfl), rfl⟩
  · have e1 : decide (-1099511627776 ≤ t) = false := decide_eq_false h1
    go_enter Try.func36, Try.ntmps36
    go_wp2
    go_returns
    exact ⟨by first | rfl | (rw [e1]; rfl), rfl⟩
theorem tickB_iff (t : Int) : tickB t = true ↔ -1099511627776 ≤ t ∧ t ≤ 1099511627776 := by unfold tickB; simp
/-- Numbers that fit. -/
def FitL (l : List Sp) : Prop := ∀ s ∈ l, (-9223372036854775808 ≤ s.1 ∧ s.1 ≤ 9223372036854775807) ∧ (-9223372036854775808 ≤ s.2 ∧ s.2 ≤ 9223372036854775807)
theorem mem_take_snoc (l : List Sp) (k : Nat) (h : k < l.length) (t : Int) : mem (l.take (k + 1)) t ↔ mem (l.take k) t ∨ (l[k].1 ≤ t ∧ t ≤ l[k].2) := by
  rw [List.take_succ_eq_append_getElem h, mem_append, mem_cons]
  simp [mem_nil]
theorem rhas_any (ao : Option Addr) (n c : Nat) (l : List Sp) (t : Int) (w : World) (hw : SpAt w ao n c l) (r : Bool) (hr : r = true ↔ mem l t) :
    Calls Try.prog 22 #[.slice ao n c, .int .i64 t] w fun e w' => e = .returned (.bool r) ∧ w = w' := by
  have HW := Lib.hid hw
  have HR := Lib.hid hr
  have HLN := Lib.hid hw.len
  have hmx : n ≤ 9223372036854775807 := Nat.le_trans hw.le hw.top
  clear hw hr
  go_enter Try.func22, Try.ntmps22
  go_wp2
  go_loop [5] (fun i => ∃ k : Nat, k ≤ n ∧ i = .int .i64 k ∧ Hid (¬ mem (l.take k) t)) (fun i => n - (intOf i).toNat)
  case atStart => exact ⟨0, Nat.zero_le _, rfl, Lib.hid (mem_nil t)⟩
  case round =>
    obtain ⟨k, hk, rfl, HN⟩ := hrel
    by_cases hlt : k < n
    · obtain ⟨b, p, rfl, hc⟩ := HW.out.here (by omega)
      have hkl : k < l.length := by rw [HLN.out]; exact hlt
      obtain ⟨c1, c2⟩ := hc k hkl
      have hts := mem_take_snoc l k hkl t
      have HT := Lib.hid hts
      have HY : Hid (l[k].1 ≤ t ∧ t ≤ l[k].2 → true = r) := Lib.hid (fun z => (HR.out.2 ⟨l[k], List.getElem_mem hkl, z.1, z.2⟩).symm)
      clear hts hc
      obtain ⟨x, hx⟩ : ∃ q, l[k].1 = q := ⟨_, rfl⟩
      obtain ⟨y, hy⟩ : ∃ q, l[k].2 = q := ⟨_, rfl⟩
      rw [hx] at c1 HT HY
      rw [hy] at c2 HT HY
      clear hx hy
      have i0 : (0 : Int) ≤ (k : Int) := by omega
      have i1 : (k : Int) < (n : Int) := by omega
      by_cases h1 : x ≤ t
      · by_cases h2 : t ≤ y
        · have HE := Lib.hid (HY.out ⟨h1, h2⟩)
          clear HT HY
          go_wp2
          go_returns
          exact ⟨ret_bool HE.out, rfl⟩
        · have HN2 : Hid (¬ mem (l.take (k + 1)) t) := Lib.hid (fun z => by rcases HT.out.1 z with z | z; exact HN.out z; omega)
          clear HT HY
          go_wp2
          go_round
          case rel => exact ⟨k + 1, by omega, by go_num, HN2⟩
          case measure => simp [intOf]; omega
      · have HN2 : Hid (¬ mem (l.take (k + 1)) t) := Lib.hid (fun z => by rcases HT.out.1 z with z | z; exact HN.out z; omega)
        clear HT HY
        go_wp2
        go_round
        case rel => exact ⟨k + 1, by omega, by go_num, HN2⟩
        case measure => simp [intOf]; omega
    · have HE : Hid (false = r) := Lib.hid (by
        have h := HN.out
        rw [List.take_of_length_le (by rw [HLN.out]; omega)] at h
        cases r
        · rfl
        · exact absurd (HR.out.1 rfl) h)
      go_wp2
      go_returns
      exact ⟨ret_bool HE.out, rfl⟩
theorem border_even (b p n c k : Nat) (x q : Int) (hk : k < n) (hq : q = 2 * (k : Int)) (hq2 : q ≤ 9223372036854775807) (w : World) (h1 : w.cell? ⟨b, p + k * 2, none⟩ = some (.int .i64 x)) :
    Calls Try.prog 68 #[.slice (some ⟨b, p, none⟩) n c, .int .i64 q] w fun e w' => e = .returned (.int .i64 x) ∧ w = w' := by
  have e0 : 0 ≤ q := by omega
  have e1 : (q % 2 == 0) = true := by simp; omega
  have e2 : q / 2 = (k : Int) := by omega
  have k0 : (0 : Int) ≤ (k : Int) := by omega
  have k1 : (k : Int) < (n : Int) := by omega
  clear hq
  go_enter Try.func68, Try.ntmps68
  go_wp2
  go_returns
  exact ⟨rfl, rfl⟩
theorem border_odd (b p n c k : Nat) (y q : Int) (hk : k < n) (hq : q = 2 * (k : Int) + 1) (hq2 : q ≤ 9223372036854775807) (hy : -9223372036854775808 ≤ y) (hy2 : y < 9223372036854775807) (w : World) (h1 : w.cell? ⟨b, p + k * 2 + 1, none⟩ = some (.int .i64 y)) :
    Calls Try.prog 68 #[.slice (some ⟨b, p, none⟩) n c, .int .i64 q] w fun e w' => e = .returned (.int .i64 (y + 1)) ∧ w = w' := by
  have e0 : 0 ≤ q := by omega
  have e1 : (q % 2 == 0) = false := by simp; omega
  have e2 : q / 2 = (k : Int) := by omega
  have k0 : (0 : Int) ≤ (k : Int) := by omega
  have k1 : (k : Int) < (n : Int) := by omega
  clear hq
  go_enter Try.func68, Try.ntmps68
  go_wp2
  go_returns
  exact ⟨rfl, rfl⟩
theorem good_at : ∀ {l : List Sp} {lo : Int}, Rt lo l → ∀ i (h : i < l.length), lo ≤ l[i].1 ∧ l[i].1 ≤ l[i].2 ∧ l[i].2 ≤ 1099511627776
  | s :: r, lo, ⟨a, b, c, d⟩, 0, h => ⟨a, b, c⟩
  | s :: r, lo, ⟨a, b, c, d⟩, i + 1, h => by
    have := good_at d i (by simpa using h)
    simp only [List.getElem_cons_succ]
    omega
/-- A border of a right set. -/
theorem border_any (ao : Option Addr) (n c m : Nat) (l : List Sp) (hg : Good l) (hm : m < 2 * n) (hn : n ≤ 1099511627776) (w : World) (hw : SpAt w ao n c l) :
    Calls Try.prog 68 #[.slice ao n c, .int .i64 m] w fun e w' => e = .returned (.int .i64 (bd l m)) ∧ w = w' := by
  obtain ⟨b, p, rfl, hc⟩ := hw.here (by omega)
  have hk : m / 2 < l.length := by rw [hw.len]; omega
  have hgd : l.getD (m / 2) (0, 0) = l[m / 2] := by rw [List.getD_eq_getElem?_getD, List.getElem?_eq_getElem hk]; rfl
  have g := good_at hg (m / 2) hk
  unfold bd
  rw [hgd]
  by_cases q : m % 2 = 0
  · rw [if_pos q]
    exact border_even b p n c (m / 2) _ m (by omega) (by omega) (by omega) w (hc _ hk).1
  · rw [if_neg q]
    exact border_odd b p n c (m / 2) _ m (by omega) (by omega) (by omega) (by omega) (by omega) w (hc _ hk).2
end Go.Proofs.Ythjpnnggghfepaa
