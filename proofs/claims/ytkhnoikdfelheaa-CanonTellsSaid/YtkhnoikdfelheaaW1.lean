/- Plainly: the forms of the examples. -/
import Derived.Test.YtkhnoikdfelheaaG20
namespace Go.Proofs.Ytkhnoikdfelheaa
set_option linter.unusedVariables false
set_option linter.unusedSimpArgs false
open Go.ChangeShapes Go.WideShapes Go.ChangeAt Go.RowKit
/-- Business weeks, with exceptions. -/
abbrev weeksF (P : Int) (os : List Gr) (co : Option Addr) (cc : Nat) (oo : Option Addr) (oc : Nat) : Fv := ⟨P, 1, co, 1, cc, oo, os.length, oc, [[(0, 4)]], os⟩
abbrev aloneF (oo : Option Addr) (oc : Nat) : Fv := ⟨0, 0, none, 0, 0, oo, 1, oc, [], [(3, [(5, 6)])]⟩
section
variable (co : Option Addr) (cc : Nat) (oo : Option Addr) (oc : Nat)
theorem good04 : Good [(0, 4)] := by simp [Good, Rt]
theorem good811 : Good [(8, 11)] := by simp [Good, Rt]
theorem good56 : Good [(5, 6)] := by simp [Good, Rt]
theorem ris7 : RisOk [[(0, 4)]] 7 := ⟨by simp, fun a ha b hb s hs u hu => by simp at ha hb; subst ha hb; simp at hs hu; subst hs hu; simp⟩
theorem ris4 : ¬ RisOk [[(0, 4)]] 4 := fun h => by have := h.turn [(0, 4)] (by simp) [(0, 4)] (by simp) (0, 4) (by simp) (0, 4) (by simp); simp at this
theorem meas7 (os : List Gr) : (weeksF 7 os co cc oo oc).Meas := .inr ⟨(show (1 : Int) ≠ 0 by decide), rfl, (show (1 : Int) ≤ 7 by decide), (show (7 : Int) ≤ 1099511627776 by decide)⟩
theorem rt_weeks : (weeksF 7 [] co cc oo oc).Rt := by
  refine ⟨meas7 co cc oo oc [], fun l hl => ?_, oddOk_nil, ris7, fun i => ⟨fun h => ?_, fun h => ?_⟩⟩
  · simp at hl; rw [hl]; exact good04
  · exact absurd h (Nat.not_lt_zero _)
  · exact absurd h (Nat.not_lt_zero _)
theorem rt_bad : ¬ (weeksF 4 [] co cc oo oc).Rt := fun h => ris4 h.ris
theorem odd1 : OddOk [(1, [(8, 11)])] := ⟨fun o ho => by simp at ho; subst ho; exact ⟨good811, by decide, by decide⟩, by simp⟩
theorem odd3 : OddOk [(3, [(5, 6)])] := ⟨fun o ho => by simp at ho; subst ho; exact ⟨good56, by decide, by decide⟩, by simp⟩
theorem gr_w0 (os : List Gr) (h : exc os 0 = none) : gr (weeksF 7 os co cc oo oc) 0 = [(0, 4)] := by
  unfold gr; rw [h]; show cg [[(0, 4)]] 7 1 0 = _; decide
theorem gr_wm : gr (weeksF 7 [] co cc oo oc) (-1) = [(-7, -3)] := by
  show (match exc [] (-1) with | some l => l | none => cg [[(0, 4)]] 7 1 (-1)) = _
  decide
theorem gr_s1 : gr (weeksF 7 [(1, [(8, 11)])] co cc oo oc) 1 = [(8, 11)] := by
  show (match exc [(1, [(8, 11)])] 1 with | some l => l | none => cg [[(0, 4)]] 7 1 1) = _
  decide
theorem gr_s2 : gr (weeksF 7 [(1, [(8, 11)])] co cc oo oc) 2 = [(14, 18)] := by
  show (match exc [(1, [(8, 11)])] 2 with | some l => l | none => cg [[(0, 4)]] 7 1 2) = _
  decide
theorem gr_s0 : gr (weeksF 7 [(1, [(8, 11)])] co cc oo oc) 0 = [(0, 4)] := by
  show (match exc [(1, [(8, 11)])] 0 with | some l => l | none => cg [[(0, 4)]] 7 1 0) = _
  decide
theorem gr_sT : gr (weeksF 7 [(1, [(8, 11)])] co cc oo oc) 1099511627776 = [(7696581394432, 7696581394436)] := by
  show (match exc [(1, [(8, 11)])] 1099511627776 with | some l => l | none => cg [[(0, 4)]] 7 1 1099511627776) = _
  decide
theorem gr_a3 : gr (aloneF oo oc) 3 = [(5, 6)] := by
  show (match exc [(3, [(5, 6)])] 3 with | some l => l | none => cg [] 0 0 3) = _
  decide
theorem gr_aN (k : Int) (h : k ≠ 3) : gr (aloneF oo oc) k = [] := by
  have e : exc [(3, [(5, 6)])] k = none := exc_none.2 (fun o ho => by simp at ho; subst ho; exact fun e => h e.symm)
  show (match exc [(3, [(5, 6)])] k with | some l => l | none => cg [] 0 0 k) = []
  rw [e]; rfl
theorem rt_some : (weeksF 7 [(1, [(8, 11)])] co cc oo oc).Rt := by
  refine ⟨meas7 co cc oo oc _, fun l hl => ?_, odd1, ris7, fun i => ⟨fun h j hj => ?_, fun h j hj => ?_⟩⟩
  · simp at hl; rw [hl]; exact good04
  · have hi : i = 0 := by simpa using h
    subst hi
    obtain ⟨a, b, c⟩ := hj.yes rfl
    simp at a
    have h0 := gr_s0 co cc oo oc
    obtain rfl : j = 0 := by
      by_cases e : j = 0
      · exact e
      · have := c 0 (by simp) (by omega)
        rw [h0] at this; cases this
    rw [h0]
    exact ⟨fit_good good04, fun _ => (show decide (hullB [(0, 4)] < hullA [(8, 11)]) = true by decide)⟩
  · have hi : i = 0 := by simpa using h
    subst hi
    obtain ⟨a, b, c⟩ := hj.yes rfl
    simp at a
    have h2 := gr_s2 co cc oo oc
    obtain rfl : j = 2 := by
      by_cases e : j = 2
      · exact e
      · have := c 2 (by simp) (by omega)
        rw [h2] at this; cases this
    rw [h2]
    exact ⟨fit_good (by simp [Good, Rt]), fun _ => (show decide (hullB [(8, 11)] < hullA [(14, 18)]) = true by decide)⟩
theorem rt_alone : (aloneF oo oc).Rt := by
  refine ⟨.inl ⟨rfl, rfl, rfl⟩, fun l hl => (by cases hl), odd3, ⟨by simp, fun a ha => by cases ha⟩, fun i => ⟨fun h j hj => ?_, fun h j hj => ?_⟩⟩
  · have hi : i = 0 := by simpa using h
    subst hi
    obtain ⟨a, b, c⟩ := hj.yes rfl
    simp at a
    exact absurd (gr_aN oo oc j (by omega)) b
  · have hi : i = 0 := by simpa using h
    subst hi
    obtain ⟨a, b, c⟩ := hj.yes rfl
    simp at a
    exact absurd (gr_aN oo oc j (by omega)) b
end
end Go.Proofs.Ytkhnoikdfelheaa
