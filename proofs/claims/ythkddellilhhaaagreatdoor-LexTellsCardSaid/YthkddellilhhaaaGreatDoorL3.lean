/- lex: the tables; numbers; dates. -/
import Derived.Test.YthkddellilhhaaaGreatDoorL2
import Derived.Test.YthkddellilhhaaaGreatDoorRd
import Derived.Test.YthkddellilhhaaaGreatDoorText
namespace Go.Proofs.YthkddellilhhaaaGreatDoor
set_option linter.unusedVariables false
set_option linter.unusedSimpArgs false
open Go.ChangeShapes Go.WideShapes Go.ChangeAt Go.RowKit
/-- The tables that lex reads. -/
structure Tx (w : World) : Prop where
  tabs : Tabs w
  syn : ∃ tp p, w.var? Tryz.prog "strconv.ErrSyntax" = some #[.iface tp p]
  rng : ∃ tp p, w.var? Tryz.prog "strconv.ErrRange" = some #[.iface tp p]
theorem var_keep {w w' : World} {s : String} {c : Array Value} (h : w.var? Tryz.prog s = some c) (b : Below w.heap.size w w') : w'.var? Tryz.prog s = some c := by
  unfold World.var? at *
  cases hg : Tryz.prog.globalNamed s with
  | none => simp [hg] at h
  | some g =>
    simp only [hg, Option.bind_some] at h ⊢
    have hlt : g < w.heap.size := by
      rcases Nat.lt_or_ge g w.heap.size with h' | h'
      · exact h'
      · rw [Array.getElem?_eq_none h'] at h; simp at h
    rw [b.block g hlt]
    exact h
theorem Tx.keep {w w' : World} (h : Tx w) (b : Below w.heap.size w w') : Tx w' := by
  obtain ⟨t1, p1, h1⟩ := h.syn
  obtain ⟨t2, p2, h2⟩ := h.rng
  exact ⟨h.tabs.keep b, ⟨t1, p1, var_keep h1 b⟩, ⟨t2, p2, var_keep h2 b⟩⟩
/-- A number that a text spells. -/
def piOf (l : List UInt8) : Option Int := match Lib.parseIntB 64 l with
  | .ok v => some v
  | _ => none
theorem body_trim (l : List UInt8) : Lx.body l = Lib.trimPrefix l [45] := by
  unfold Lx.body Lib.trimPrefix Lib.hasPrefix
  cases l with
  | nil => rfl
  | cons c r =>
    by_cases h : c = 45
    · subst h; simp
    · have : ¬ (45 : UInt8) = c := fun e => h e.symm
      simp [h, this]
theorem pi_nil : piOf [] = none := rfl
theorem pi_minus : piOf [45] = none := by unfold piOf; rfl
theorem bytes_below (w : World) (e : TypeId) (s : ByteArray) : Below w.heap.size w (Lib.bytesWorld w e s) := by
  exact ⟨rfl, rfl, rfl, by rw [Lib.bytesWorld_size]; omega, fun j hj => Lib.bytesWorld_at_old w e s j hj⟩
/-- ParseInt: a number and no error, or an error. -/
theorem parse_ok (s : ByteArray) (w : World) (hs : s.size ≤ 281474976710656) {v : Int} (h : piOf s.data.toList = some v) : Calls Tryz.prog 50 #[.string s, .int .i64 10, .int .i64 64] w fun e w' => e = .returned (.tuple #[.int .i64 v, .nilIface]) ∧ Below w.heap.size w w' := by
  unfold piOf at h
  split at h
  · rename_i u hu
    injection h with h
    subst h
    refine (Tryz.strconv_ParseInt_10_at64_ok s (by omega) u hu w).mono ?_
    rintro e w' ⟨rfl, rfl | ⟨t, rfl⟩⟩
    · exact ⟨rfl, Below.refl _ _⟩
    · exact ⟨rfl, bytes_below _ _ _⟩
  · cases h
theorem parse_no (s : ByteArray) (w : World) (hs : s.size ≤ 281474976710656) (hT : Tx w) (h : piOf s.data.toList = none) : Calls Tryz.prog 50 #[.string s, .int .i64 10, .int .i64 64] w fun e w' => ∃ (x : Int) (N : Nat), e = .returned (.tuple #[.int .i64 x, .iface 110 (.pointer (some ⟨N, 0, none⟩))]) ∧ Below w.heap.size w w' := by
  unfold piOf at h
  obtain ⟨t1, p1, h1⟩ := hT.syn
  obtain ⟨t2, p2, h2⟩ := hT.rng
  cases hp : Lib.parseIntB 64 s.data.toList with
  | ok v => rw [hp] at h; cases h
  | «syntax» =>
    refine (Tryz.strconv_ParseInt_10_at64_syntax_var s hs hp t1 p1 w h1).mono ?_
    rintro e w' ⟨N, rfl, _, _, b⟩
    exact ⟨_, N, rfl, b⟩
  | range =>
    refine (Tryz.strconv_ParseInt_10_at64_range_var s hs hp t2 p2 w h2).mono ?_
    rintro e w' ⟨N, rfl, _, _, b⟩
    exact ⟨_, N, rfl, b⟩
end Go.Proofs.YthkddellilhhaaaGreatDoor
