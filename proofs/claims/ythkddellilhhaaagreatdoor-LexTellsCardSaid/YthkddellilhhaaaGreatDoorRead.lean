/- Read: the forms. -/
import Derived.Test.YthkddellilhhaaaGreatDoorText
import Derived.Laws.EntriesVeiled
namespace Go.Proofs.YthkddellilhhaaaGreatDoor
set_option linter.unusedVariables false
open Go.ChangeShapes Go.WideShapes Go.ChangeAt Go.RowKit
open Cal (dg)
/-- The world behind the list of forms. -/
def formsW (w : World) : World := w.alloc (.cells #[.string ⟨#[45, 48, 48, 45, 48, 48]⟩, .func (.func 91) #[] #[], .string ⟨#[45, 87, 48, 48, 45, 48]⟩, .func (.func 92) #[] #[], .string ⟨#[45, 48, 48, 48]⟩, .func (.func 93) #[] #[]] 91)
theorem forms_any (w : World) : Calls Tryz.prog 69 #[] w fun e w' => e = .returned (.slice (some ⟨w.heap.size, 0, none⟩) 3 3) ∧ w' = formsW w := by
  go_enter Tryz.func69, Tryz.ntmps69
  go_wp2
  go_returns
  exact ⟨rfl, rfl⟩
theorem form3_ok (y k m v e : Int) (w : World) (C : Hid (∀ w, Tab w → Calls Tryz.prog 94 #[.int .i64 y, .int .i64 k] w fun e' w' => e' = .returned (.tuple #[.int .i64 v, .int .i64 e]) ∧ w = w')) (hT : Tab w) :
    Calls Tryz.prog 93 #[.int .i64 y, .int .i64 k, .int .i64 m] w fun e' w' => e' = .returned (.tuple #[.int .i64 v, .int .i64 e]) ∧ w = w' := by
  have HT := Lib.hid hT
  clear hT
  go_enter Tryz.func93, Tryz.ntmps93
  go_wp2_with (go_at_call 94; (with_reducible refine (C.out _ HT.out).mono ?_); rintro e w' ⟨rfl, rfl⟩)
  go_returns
  exact ⟨rfl, rfl⟩
theorem cell_keep {w w' : World} {a : Addr} {v : Value} (h : w.cell? a = some v) (b : Below w.heap.size w w') : w'.cell? a = some v := by
  have hlt : a.block < w.heap.size := by
    rcases Nat.lt_or_ge a.block w.heap.size with h' | h'
    · exact h'
    · unfold World.cell? at h
      rw [Array.getElem?_eq_none h'] at h; simp at h
  rw [← h]
  unfold World.cell?
  rw [b.block a.block hlt]
/-- The forms stand in a block. -/
structure Forms (B : Nat) (w : World) : Prop where
  c0 : w.cell? ⟨B, 0, none⟩ = some (.string ⟨#[45, 48, 48, 45, 48, 48]⟩)
  c1 : w.cell? ⟨B, 1, none⟩ = some (.func (.func 91) #[] #[])
  c2 : w.cell? ⟨B, 2, none⟩ = some (.string ⟨#[45, 87, 48, 48, 45, 48]⟩)
  c3 : w.cell? ⟨B, 3, none⟩ = some (.func (.func 92) #[] #[])
  c4 : w.cell? ⟨B, 4, none⟩ = some (.string ⟨#[45, 48, 48, 48]⟩)
  c5 : w.cell? ⟨B, 5, none⟩ = some (.func (.func 93) #[] #[])
theorem Forms.keep {B : Nat} {w w' : World} (h : Forms B w) (b : Below w.heap.size w w') : Forms B w' :=
  ⟨cell_keep h.c0 b, cell_keep h.c1 b, cell_keep h.c2 b, cell_keep h.c3 b, cell_keep h.c4 b, cell_keep h.c5 b⟩
theorem forms_in (w : World) : Forms w.heap.size (formsW w) := by
  have h : (formsW w).heap[w.heap.size]? = some (.cells #[.string ⟨#[45, 48, 48, 45, 48, 48]⟩, .func (.func 91) #[] #[], .string ⟨#[45, 87, 48, 48, 45, 48]⟩, .func (.func 92) #[] #[], .string ⟨#[45, 48, 48, 48]⟩, .func (.func 93) #[] #[]] 91) := by
    show (w.heap.push _)[w.heap.size]? = _
    simp
  constructor <;> (unfold World.cell?; rw [h]; rfl)
theorem forms_below (w : World) : Below w.heap.size w (formsW w) := (Below.refl _ w).alloc (Nat.le_refl _) _
theorem forms_call (w : World) : Calls Tryz.prog 69 #[] w fun e w' => e = .returned (.slice (some ⟨w.heap.size, 0, none⟩) 3 3) ∧ Forms w.heap.size w' ∧ Below w.heap.size w w' :=
  (forms_any w).mono fun e w' ⟨he, hw⟩ => ⟨he, hw ▸ forms_in w, hw ▸ forms_below w⟩

theorem after {w' wr w3 : World} {B : Nat} {x y : Value} (hF : Forms B wr) (hB : Below w'.heap.size w' wr) (hT : Tab w')
    (b : Below (wr.alloc (.cells #[x, y] 91)).drew.heap.size (wr.alloc (.cells #[x, y] 91)).drew w3) :
    Forms B w3 ∧ Below w'.heap.size w' w3 ∧ Tab w3 ∧ w3.cell? ⟨wr.heap.size, 0, none⟩ = some x ∧ w3.cell? ⟨wr.heap.size, 1, none⟩ = some y := by
  have b3 : Below (wr.alloc (.cells #[x, y] 91)).heap.size (wr.alloc (.cells #[x, y] 91)) w3 := ((Below.refl _ (wr.alloc (.cells #[x, y] 91))).drew).trans b
  have ba : Below wr.heap.size wr (wr.alloc (.cells #[x, y] 91)) := (Below.refl _ wr).alloc (Nat.le_refl _) _
  have h : (wr.alloc (.cells #[x, y] 91)).heap[wr.heap.size]? = some (.cells #[x, y] 91) := by
    show (wr.heap.push _)[wr.heap.size]? = _
    simp
  have b1 := ba.trans (b3.mono ba.size)
  have b2 := hB.trans (b1.mono hB.size)
  refine ⟨hF.keep b1, b2, hT.keep b2, cell_keep ?_ b3, cell_keep ?_ b3⟩ <;> (unfold World.cell?; rw [h]; rfl)
theorem read_short (s : ByteArray) (rest : ByteArray) (b : Bool) (w : World) (h1 : (⟨(Lib.trimPrefix s.data.toList [45]).toArray⟩ : ByteArray) = rest) (h2 : Lib.hasPrefix s.data.toList [45] = b) (h3 : rest.size < 4) :
    Calls Tryz.prog 48 #[.string s] w fun e w' => e = .returned (.tuple #[.int .i64 0, .int .i64 30]) ∧ w = w' := by
  have C := fun w => Tryz.strings_CutPrefix s ⟨#[45]⟩ w
  rw [show (ByteArray.mk #[45]).data.toList = [45] from rfl, h1, h2] at C
  have C := Lib.hid C
  have h4 : (rest.size : Int) < 4 := by omega
  clear h1 h2 h3
  go_enter Tryz.func48, Tryz.ntmps48
  go_wp2_with (go_at_call 67; (with_reducible refine (C.out _).mono ?_); rintro e w' ⟨rfl, rfl⟩)
  go_returns
  exact ⟨rfl, rfl⟩
end Go.Proofs.YthkddellilhhaaaGreatDoor
