/- Pad, Text, Read in one. -/
import Derived.Test.YtimjendkpjojoaaGreatDoorKw
import Derived.Test.YtimjendkpjojoaaGreatDoorKd
import Derived.Laws.EntriesVeiled
namespace Go.Proofs.YtimjendkpjojoaaGreatDoor
set_option linter.unusedVariables false
open Go.ChangeShapes Go.WideShapes Go.ChangeAt Go.RowKit

/-- The tables that are read: the days ahead of a month, the powers of ten. -/
def Tabs (w : World) : Prop := Tab w ∧ Lib.TabIs Tryz.prog w "internal/strconv.uint64pow10" .u64 Lib.pow10Tab

theorem Tab.keep {w w' : World} (h : Tab w) (b : Below w.heap.size w w') : Tab w' := fun i hi => cell_keep (h i hi) b
theorem Tabs.keep {w w' : World} (h : Tabs w) (b : Below w.heap.size w w') : Tabs w' := by
  refine ⟨h.1.keep b, ?_⟩
  have h2 := h.2
  unfold Lib.TabIs World.var? at *
  cases hg : Tryz.prog.globalNamed "internal/strconv.uint64pow10" with
  | none => simp [hg] at h2
  | some g =>
    simp only [hg, Option.bind_some] at h2 ⊢
    have hlt : g < w.heap.size := by
      rcases Nat.lt_or_ge g w.heap.size with h' | h'
      · exact h'
      · rw [Array.getElem?_eq_none h'] at h2; simp at h2
    rw [b.block g hlt]
    exact h2
theorem grow_below (w : World) (k : Nat) (os : Array Obj) : Below w.heap.size w (Sort.grow (w.drewN k) os) :=
  ⟨rfl, rfl, rfl, by show w.heap.size ≤ (w.heap ++ os).size; simp, fun j hj => by show (w.heap ++ os)[j]? = _; rw [Array.getElem?_append_left hj]⟩
theorem drewN_below (w : World) (k : Nat) : Below w.heap.size w (w.drewN k) := ⟨rfl, rfl, rfl, Nat.le_refl _, fun _ _ => rfl⟩

namespace Cal
/-- A digit, as a byte. -/
def dg (n : Nat) : UInt8 := UInt8.ofNat (48 + n)
end Cal
open Cal (dg)
theorem dec3 {n : Nat} (h1 : 100 ≤ n) (h2 : n < 1000) : Lib.decDigits n = [dg (n / 100), dg (n / 10 % 10), dg (n % 10)] := by
  rw [Lib.decDigits, dif_neg (by omega), Lib.decDigits_two (by omega) (by omega), Nat.div_div_eq_div_mul]
  rfl
theorem dec4 {n : Nat} (h1 : 1000 ≤ n) (h2 : n < 10000) : Lib.decDigits n = [dg (n / 1000), dg (n / 100 % 10), dg (n / 10 % 10), dg (n % 10)] := by
  rw [Lib.decDigits, dif_neg (by omega), dec3 (by omega) (by omega), Nat.div_div_eq_div_mul, Nat.div_div_eq_div_mul]
  rfl
theorem dg0 : dg 0 = 48 := rfl

open Cal (dg)
/-- The world behind the list of forms. -/
def formsW (w : World) : World := w.alloc (.cells #[.string ⟨#[45, 48, 48, 45, 48, 48]⟩, .func (.func 91) #[] #[], .string ⟨#[45, 87, 48, 48, 45, 48]⟩, .func (.func 92) #[] #[], .string ⟨#[45, 48, 48, 48]⟩, .func (.func 93) #[] #[]] 125)
theorem forms_any (w : World) : Calls Tryz.prog 78 #[] w fun e w' => e = .returned (.slice (some ⟨w.heap.size, 0, none⟩) 3 3) ∧ w' = formsW w := by
  go_enter Tryz.func78, Tryz.ntmps78
  go_wp2
  go_returns
  exact ⟨rfl, rfl⟩
theorem form3_ok (y k m v e : Int) (w : World) (C : Hid (∀ w, Tab w → Calls Tryz.prog 94 #[.int .i64 y, .int .i64 k] w fun e' w' => e' = .returned (.tuple #[.int .i64 v, .int .i64 e]) ∧ w = w')) (hT : Tab w) :
    Calls Tryz.prog 93 #[.int .i64 y, .int .i64 k, .int .i64 m] w fun e' w' => e' = .returned (.tuple #[.int .i64 v, .int .i64 e]) ∧ w = w' := by
  have HT := Lib.hid hT
  clear hT
  go_enter Tryz.func93, Tryz.ntmps93
  go_wp2_with (go_at_call 94; (with_reducible refine (C.out _ HT.out).mono ?_); rintro e w' ⟨rfl, rfl⟩)
  go_returns
  exact ⟨rfl, rfl⟩
/-- The forms stand in a block. -/
structure Forms (B : Nat) (w : World) : Prop where
  c0 : w.cell? ⟨B, 0, none⟩ = some (.string ⟨#[45, 48, 48, 45, 48, 48]⟩)
  c1 : w.cell? ⟨B, 1, none⟩ = some (.func (.func 91) #[] #[])
  c2 : w.cell? ⟨B, 2, none⟩ = some (.string ⟨#[45, 87, 48, 48, 45, 48]⟩)
  c3 : w.cell? ⟨B, 3, none⟩ = some (.func (.func 92) #[] #[])
  c4 : w.cell? ⟨B, 4, none⟩ = some (.string ⟨#[45, 48, 48, 48]⟩)
  c5 : w.cell? ⟨B, 5, none⟩ = some (.func (.func 93) #[] #[])
theorem Forms.keep {B : Nat} {w w' : World} (h : Forms B w) (b : Below w.heap.size w w') : Forms B w' :=
  ⟨cell_keep h.c0 b, cell_keep h.c1 b, cell_keep h.c2 b, cell_keep h.c3 b, cell_keep h.c4 b, cell_keep h.c5 b⟩
theorem forms_in (w : World) : Forms w.heap.size (formsW w) := by
  have h : (formsW w).heap[w.heap.size]? = some (.cells #[.string ⟨#[45, 48, 48, 45, 48, 48]⟩, .func (.func 91) #[] #[], .string ⟨#[45, 87, 48, 48, 45, 48]⟩, .func (.func 92) #[] #[], .string ⟨#[45, 48, 48, 48]⟩, .func (.func 93) #[] #[]] 125) := by
    show (w.heap.push _)[w.heap.size]? = _
    simp
  constructor <;> (unfold World.cell?; rw [h]; rfl)
theorem forms_below (w : World) : Below w.heap.size w (formsW w) := (Below.refl _ w).alloc (Nat.le_refl _) _
theorem forms_call (w : World) : Calls Tryz.prog 78 #[] w fun e w' => e = .returned (.slice (some ⟨w.heap.size, 0, none⟩) 3 3) ∧ Forms w.heap.size w' ∧ Below w.heap.size w w' :=
  (forms_any w).mono fun e w' ⟨he, hw⟩ => ⟨he, hw ▸ forms_in w, hw ▸ forms_below w⟩

theorem after {w' wr w3 : World} {B : Nat} {x y : Value} (hF : Forms B wr) (hB : Below w'.heap.size w' wr) (hT : Tab w')
    (b : Below (wr.alloc (.cells #[x, y] 125)).drew.heap.size (wr.alloc (.cells #[x, y] 125)).drew w3) :
    Forms B w3 ∧ Below w'.heap.size w' w3 ∧ Tab w3 ∧ w3.cell? ⟨wr.heap.size, 0, none⟩ = some x ∧ w3.cell? ⟨wr.heap.size, 1, none⟩ = some y := by
  have b3 : Below (wr.alloc (.cells #[x, y] 125)).heap.size (wr.alloc (.cells #[x, y] 125)) w3 := ((Below.refl _ (wr.alloc (.cells #[x, y] 125))).drew).trans b
  have ba : Below wr.heap.size wr (wr.alloc (.cells #[x, y] 125)) := (Below.refl _ wr).alloc (Nat.le_refl _) _
  have h : (wr.alloc (.cells #[x, y] 125)).heap[wr.heap.size]? = some (.cells #[x, y] 125) := by
    show (wr.heap.push _)[wr.heap.size]? = _
    simp
  have b1 := ba.trans (b3.mono ba.size)
  have b2 := hB.trans (b1.mono hB.size)
  refine ⟨hF.keep b1, b2, hT.keep b2, cell_keep ?_ b3, cell_keep ?_ b3⟩ <;> (unfold World.cell?; rw [h]; rfl)
theorem read_short (s : ByteArray) (rest : ByteArray) (b : Bool) (w : World) (h1 : (⟨(Lib.trimPrefix s.data.toList [45]).toArray⟩ : ByteArray) = rest) (h2 : Lib.hasPrefix s.data.toList [45] = b) (h3 : rest.size < 4) :
    Calls Tryz.prog 66 #[.string s] w fun e w' => e = .returned (.tuple #[.int .i64 0, .int .i64 30]) ∧ w = w' := by
  have C := fun w => Tryz.strings_CutPrefix s ⟨#[45]⟩ w
  rw [show (ByteArray.mk #[45]).data.toList = [45] from rfl, h1, h2] at C
  have C := Lib.hid C
  have h4 : (rest.size : Int) < 4 := by omega
  clear h1 h2 h3
  go_enter Tryz.func66, Tryz.ntmps66
  go_wp2_with (go_at_call 76; (with_reducible refine (C.out _).mono ?_); rintro e w' ⟨rfl, rfl⟩)
  go_returns
  exact ⟨rfl, rfl⟩
end Go.Proofs.YtimjendkpjojoaaGreatDoor
