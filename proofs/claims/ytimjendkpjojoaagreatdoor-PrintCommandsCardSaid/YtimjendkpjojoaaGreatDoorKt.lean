/- X11 in one. -/
import Derived.Test.YtimjendkpjojoaaGreatDoorKs
import Derived.Test.YtimjendkpjojoaaGreatDoorKh
namespace Go.Proofs.YtimjendkpjojoaaGreatDoor
set_option linter.unusedVariables false
set_option linter.unusedSimpArgs false
open Go.ChangeShapes Go.WideShapes Go.ChangeAt Go.RowKit

theorem itoa_3 : Lib.itoa 3 = [51] := by unfold Lib.itoa; rw [if_neg (by decide), show (3 : Int).toNat = 3 from rfl, Lib.decDigits, dif_pos (by decide)]; decide
theorem itoa_1 : Lib.itoa 1 = [49] := by unfold Lib.itoa; rw [if_neg (by decide), show (1 : Int).toNat = 1 from rfl, Lib.decDigits, dif_pos (by decide)]; decide
theorem rn_day : RName ⟨(([100, 97, 121] : List UInt8)).toArray⟩ := by
  refine ⟨(show 0 < 3 by decide), (show 3 ≤ 30 by decide), by show ¬ ((48 : Int) ≤ ((100 : UInt8).toNat : Int) ∧ ((100 : UInt8).toNat : Int) ≤ 57); decide, fun i hi => ?_⟩
  have : i = 0 ∨ i = 1 ∨ i = 2 := by have : i < 3 := hi; omega
  rcases this with rfl | rfl | rfl
  · exact .inr (.inr (.inl ⟨by show (97 : Int) ≤ ((100 : UInt8).toNat : Int); decide, by show ((100 : UInt8).toNat : Int) ≤ 122; decide⟩))
  · exact .inr (.inr (.inl ⟨by show (97 : Int) ≤ ((97 : UInt8).toNat : Int); decide, by show ((97 : UInt8).toNat : Int) ≤ 122; decide⟩))
  · exact .inr (.inr (.inl ⟨by show (97 : Int) ≤ ((121 : UInt8).toNat : Int); decide, by show ((121 : UInt8).toNat : Int) ≤ 122; decide⟩))
theorem rn_x : RName ⟨(([120] : List UInt8)).toArray⟩ := by
  refine ⟨(show 0 < 1 by decide), (show 1 ≤ 30 by decide), by show ¬ ((48 : Int) ≤ ((120 : UInt8).toNat : Int) ∧ ((120 : UInt8).toNat : Int) ≤ 57); decide, fun i hi => ?_⟩
  have : i = 0 := by have : i < 1 := hi; omega
  rcases this with rfl
  · exact .inr (.inr (.inl ⟨by show (97 : Int) ≤ ((120 : UInt8).toNat : Int); decide, by show ((120 : UInt8).toNat : Int) ≤ 122; decide⟩))
theorem rn_y : RName ⟨(([121] : List UInt8)).toArray⟩ := by
  refine ⟨(show 0 < 1 by decide), (show 1 ≤ 30 by decide), by show ¬ ((48 : Int) ≤ ((121 : UInt8).toNat : Int) ∧ ((121 : UInt8).toNat : Int) ≤ 57); decide, fun i hi => ?_⟩
  have : i = 0 := by have : i < 1 := hi; omega
  rcases this with rfl
  · exact .inr (.inr (.inl ⟨by show (97 : Int) ≤ ((121 : UInt8).toNat : Int); decide, by show ((121 : UInt8).toNat : Int) ≤ 122; decide⟩))
theorem rn_a : RName ⟨(([97] : List UInt8)).toArray⟩ := by
  refine ⟨(show 0 < 1 by decide), (show 1 ≤ 30 by decide), by show ¬ ((48 : Int) ≤ ((97 : UInt8).toNat : Int) ∧ ((97 : UInt8).toNat : Int) ≤ 57); decide, fun i hi => ?_⟩
  have : i = 0 := by have : i < 1 := hi; omega
  rcases this with rfl
  · exact .inr (.inr (.inl ⟨by show (97 : Int) ≤ ((97 : UInt8).toNat : Int); decide, by show ((97 : UInt8).toNat : Int) ≤ 122; decide⟩))

def XD : Lx.Ex := .mk 0 [100, 97, 121] [] []
def X3 : Lx.Ex := .mk 1 [] [3] [XD]
def C1 : Lx.Cm := ⟨[98, 111, 117, 110, 100], [[120], [121], [100, 97, 121]], [], ⟨1, 0, true, false⟩, Lx.leaf []⟩
def C2 : Lx.Cm := ⟨[100, 101, 102, 105, 110, 101], [[97]], [], ⟨0, 0, false, false⟩, X3⟩
def C3 : Lx.Cm := ⟨[110, 101, 116], [], [], ⟨0, 0, false, false⟩, Lx.leaf []⟩
def C4 : Lx.Cm := ⟨[115, 104, 111, 119], [], [], ⟨0, 0, false, false⟩, Lx.leaf []⟩
theorem line_X3 : Lx.lineX X3 = [103, 114, 111, 117, 112, 40, 51, 44, 32, 100, 97, 121, 41] := by
  unfold X3
  rw [Lx.line_op (by decide), Lx.itemsL]
  simp only [List.map_cons, List.map_nil, itoa_3]
  rw [show Lx.lineX XD = [100, 97, 121] from Lx.line_leaf _ _ _]
  decide
theorem line_C1 : Lx.lineC C1 ((Lx.shape C1.word).getD []) = [98, 111, 117, 110, 100, 32, 120, 32, 121, 32, 100, 97, 121, 32, 91, 49, 58, 93] := by
  rw [show (Lx.shape C1.word).getD [] = [110, 110, 110, 114] by decide]
  unfold Lx.lineC Lx.shL Lx.shL Lx.shL Lx.shL Lx.shL Lx.letL Lx.rgL
  simp only [show C1.rg.low = 1 from rfl, itoa_1]
  decide
theorem line_C2 : Lx.lineC C2 ((Lx.shape C2.word).getD []) = [100, 101, 102, 105, 110, 101, 32, 97, 32, 61, 32, 103, 114, 111, 117, 112, 40, 51, 44, 32, 100, 97, 121, 41] := by
  rw [show (Lx.shape C2.word).getD [] = [110, 61, 101] by decide]
  unfold Lx.lineC Lx.shL Lx.shL Lx.shL Lx.shL Lx.letL
  simp only [show C2.ex = X3 from rfl, line_X3]
  decide
theorem line_C3 : Lx.lineC C3 ((Lx.shape C3.word).getD []) = [110, 101, 116] := by decide
theorem tour_XD (d : Int) : tour XD d = [((⟨0, ⟨([100, 97, 121] : List UInt8).toArray⟩, [], 0⟩ : Pt), d)] := by simp [XD, tour, tours]
theorem right_X3 : RightL (tour X3 1) := by
  have e : tour X3 1 = [((⟨1, ⟨([] : List UInt8).toArray⟩, [3], 1⟩ : Pt), 1), ((⟨0, ⟨([100, 97, 121] : List UInt8).toArray⟩, [], 0⟩ : Pt), 1 + 1)] := by
    unfold X3; rw [tour, tours, tours, tour_XD]; rfl
  rw [e]
  refine ⟨(show 2 ≤ 2000 by decide), fun x hx => ?_⟩
  rcases List.mem_cons.1 hx with rfl | hx
  · exact ⟨(show (1 : Int) ≤ 40 by decide), ⟨(show (1 : Int) ≤ 12 by decide), rfl, rfl, by rw [if_neg (show ¬ (1 : Int) = 0 by decide)]⟩⟩
  · rcases List.mem_cons.1 hx with rfl | hx
    · exact ⟨(show (1 + 1 : Int) ≤ 40 by decide), ⟨(show (0 : Int) ≤ 12 by decide), rfl, rfl, by rw [if_pos rfl]; exact rn_day⟩⟩
    · cases hx
theorem right_C1 : RightC C1 := by
  have e : (Lx.shape C1.word).getD [] = [110, 110, 110, 114] := by decide
  refine ⟨by decide, fun x hx => ?_, by rw [e]; decide, by rw [e]; decide, (fun h => by cases h), fun _ => rfl, (fun h => absurd (by rw [e]; decide) h), fun _ => rfl, (fun h => by rw [e] at h; exact absurd h (by decide))⟩
  have hx : x ∈ [([120] : List UInt8), [121], [100, 97, 121]] := hx
  simp only [List.mem_cons, List.not_mem_nil, or_false] at hx
  rcases hx with rfl | rfl | rfl
  · exact rn_x
  · exact rn_y
  · exact rn_day
theorem right_C2 : RightC C2 := by
  have e : (Lx.shape C2.word).getD [] = [110, 61, 101] := by decide
  refine ⟨by decide, fun x hx => ?_, by rw [e]; decide, by rw [e]; decide, fun _ => rfl, fun _ => rfl, fun _ => rfl, (fun h => absurd (by rw [e]; decide) h), fun _ => right_X3⟩
  have hx : x ∈ [([97] : List UInt8)] := hx
  simp only [List.mem_cons, List.not_mem_nil, or_false] at hx
  subst hx
  exact rn_a
theorem right_C3 : RightC C3 := by
  have e : (Lx.shape C3.word).getD [] = [] := by decide
  exact ⟨by decide, (fun x hx => by cases hx), by rw [e]; decide, by rw [e]; decide, fun _ => rfl, fun _ => rfl, fun _ => rfl, fun _ => rfl, (fun h => by rw [e] at h; cases h)⟩
theorem wrong_C4 : ¬ RightC C4 := fun h => by
  have := h.nn
  rw [show (Lx.shape C4.word).getD [] = [110] by decide] at this
  exact absurd this (by decide)
end Go.Proofs.YtimjendkpjojoaaGreatDoor
