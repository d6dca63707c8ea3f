/- L1, L2 in one. -/
import Derived.Test.YtllhcpkpbipjlaaDoorRows
import Derived.Test.YtllhcpkpbipjlaaDoorKa
import Derived.Test.YtllhcpkpbipjlaaDoorKc
import Derived.BigQuiet
import Derived.BigRegion
import Derived.Deep.AppendLies
import Derived.Deep.DeepCutAuto
import Derived.Deep.DeepFit
import Derived.Deep.MidRow
import Derived.Deep.QuietTactic
import Derived.Deep.RegionHeld3
import Derived.Deep.RegionLaw
import Derived.Handy
import Derived.IntWalk
import Derived.Laws.AppendOwn
import Derived.Laws.Bits64b
import Derived.Laws.CopyOwn
import Derived.Laws.OwnMore
import Derived.Lib.Hide
import Derived.Lib.Mul64
import Derived.Maps.AppendAt
import Derived.OpenShut
import Derived.Outline
import Derived.OwnWalk
import Derived.ProofKit
import Derived.ScopeJumps
import Derived.StillTailTactics
import Derived.WalkKit
import Derived.WalkMore
import Derived.WalkSpells
import Derived.Tactics
import Derived.Tactics2
import Derived.Laws.Pointers
import Derived.RegionTactic
import Derived.RegionCalls
import Derived.Laws.NewBlocks
import Derived.Laws.EntriesVeiled
import Derived.Below
namespace Go.Proofs.YtllhcpkpbipjlaaDoor
set_option linter.unusedVariables false
set_option linter.unusedSimpArgs false
open Go.ChangeShapes Go.WideShapes Go.ChangeAt Go.RowKit
theorem cell_here {w : World} {a : Addr} {v : Value} (h : w.cell? a = some v) : a.block < w.heap.size := by
  rcases Nat.lt_or_ge a.block w.heap.size with h' | h'
  · exact h'
  · unfold World.cell? at h
    rw [Array.getElem?_eq_none h'] at h; simp at h
theorem u8c (c : UInt8) : (0 : Int) ≤ (c.toNat : Int) ∧ (c.toNat : Int) ≤ 255 := by have := c.toNat_lt; omega
theorem get_list (s : ByteArray) (k : Nat) (h : k < s.size) : s.data.toList[k]'(by rw [← Lib.size_eq]; exact h) = s[k] := rfl
theorem drop_at (s : ByteArray) (k : Nat) (h : k < s.size) : s.data.toList.drop k = s[k] :: s.data.toList.drop (k + 1) := by
  rw [List.drop_eq_getElem_cons (by rw [← Lib.size_eq]; exact h), get_list]
theorem name_iff (s : ByteArray) (h0 : 0 < s.size) : Lx.nameOk s.data.toList = true ↔ s.size ≤ 30 ∧ Lx.dgt s[0] = false ∧ Lx.run Lx.ltr s.data.toList = s.size := by
  unfold Lx.nameOk
  rw [decide_eq_true_iff, ← Lib.size_eq]
  have e : s.data.toList[0]? = some s[0] := by rw [List.getElem?_eq_getElem (by rw [← Lib.size_eq]; exact h0), get_list]
  constructor
  · rintro ⟨a, b, c, d⟩; exact ⟨b, c _ e, d⟩
  · rintro ⟨b, c, d⟩
    exact ⟨h0, b, fun x hx => by rw [e] at hx; cases hx; exact c, d⟩
end Go.Proofs.YtllhcpkpbipjlaaDoor
