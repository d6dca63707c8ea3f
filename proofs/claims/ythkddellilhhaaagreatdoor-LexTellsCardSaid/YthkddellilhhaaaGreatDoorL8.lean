/- lex: lists of tokens; Same. -/
import Derived.Test.YthkddellilhhaaaGreatDoorL7
namespace Go.Proofs.YthkddellilhhaaaGreatDoor
set_option linter.unusedVariables false
set_option linter.unusedSimpArgs false
open Go.ChangeShapes Go.WideShapes Go.ChangeAt Go.RowKit
/-- A list of tokens in memory. -/
structure TkAt (w : World) (ao : Option Addr) (n c : Nat) (l : List Lx.Tk) : Prop where
  len : l.length = n
  le : n ≤ c
  top : c ≤ 9223372036854775807
  bare : ao = none → n = 0 ∧ c = 0
  here : 0 < n → ∃ b p, ao = some ⟨b, p, none⟩ ∧ ∀ i (h : i < l.length), w.cell? ⟨b, p + i * 3, none⟩ = some (.int .u8 l[i].1) ∧ w.cell? ⟨b, p + i * 3 + 1, none⟩ = some (.string ⟨l[i].2.1.toArray⟩) ∧ w.cell? ⟨b, p + i * 3 + 2, none⟩ = some (.int .i64 l[i].2.2)
theorem TkAt.keep {w w' : World} {ao : Option Addr} {n c : Nat} {l : List Lx.Tk} (h : TkAt w ao n c l) (k : Below w.heap.size w w') : TkAt w' ao n c l :=
  ⟨h.len, h.le, h.top, h.bare, fun h0 => by
    obtain ⟨b, p, e, hc⟩ := h.here h0
    exact ⟨b, p, e, fun i hi => ⟨cell_keep (hc i hi).1 k, cell_keep (hc i hi).2.1 k, cell_keep (hc i hi).2.2 k⟩⟩⟩
theorem tkCells_get : ∀ (l : List Lx.Tk) (i : Nat) (h : i < l.length), (tkCells l)[i * 3]? = some (.int .u8 l[i].1) ∧ (tkCells l)[i * 3 + 1]? = some (.string ⟨l[i].2.1.toArray⟩) ∧ (tkCells l)[i * 3 + 2]? = some (.int .i64 l[i].2.2)
  | t :: r, 0, _ => ⟨rfl, rfl, rfl⟩
  | t :: r, i + 1, h => by
    have ih := tkCells_get r i (by simpa using h)
    have e : ∀ j, (tkCells (t :: r))[j + 3]? = (tkCells r)[j]? := fun j => rfl
    refine ⟨?_, ?_, ?_⟩
    · rw [show (i + 1) * 3 = i * 3 + 3 by omega, e]; exact ih.1
    · rw [show (i + 1) * 3 + 1 = i * 3 + 1 + 3 by omega, e]; exact ih.2.1
    · rw [show (i + 1) * 3 + 2 = i * 3 + 2 + 3 by omega, e]; exact ih.2.2
theorem own_tk {w : World} {B : Nat} {v : Value} {l : List Lx.Tk} (h : w.ownsRow B 27 3 v l.length (tkCells l)) : ∃ ao c, v = .slice ao l.length c ∧ TkAt w ao l.length c l := by
  rcases h.2 with ⟨rfl, h0⟩ | ⟨g, cap, cur, rfl, _, hg, h1, h2, h3, h4⟩
  · rw [h0]
    exact ⟨none, 0, rfl, ⟨h0, Nat.le_refl _, Nat.zero_le _, fun _ => ⟨rfl, rfl⟩, fun h => absurd h (Nat.lt_irrefl _)⟩⟩
  · refine ⟨some ⟨g, 0, none⟩, cap, rfl, ⟨rfl, h1, by unfold maxLen at h2; omega, (fun e => by cases e), fun h0 => ⟨g, 0, rfl, fun i hi => ?_⟩⟩⟩
    have gt := tkCells_get l i hi
    have e : ∀ j, j < l.length * 3 → w.cell? ⟨g, 0 + j, none⟩ = (tkCells l)[j]? := fun j hj => by
      rw [Nat.zero_add, cell_blk hg, ← h4, List.getElem?_take_of_lt hj]; simp
    refine ⟨?_, ?_, ?_⟩
    · rw [e _ (by omega)]; exact gt.1
    · rw [Nat.add_assoc, e _ (by omega)]; exact gt.2.1
    · rw [Nat.add_assoc, e _ (by omega)]; exact gt.2.2
theorem row_tk {w : World} {B n : Nat} {v : Value} {xs : List Value} (h : w.ownsRow B 27 3 v n xs) : ∃ ao c, v = .slice ao n c ∧ (ao = none → c = 0) := by
  rcases h.2 with ⟨rfl, rfl⟩ | ⟨g, cap, cur, rfl, _⟩
  · exact ⟨none, 0, rfl, fun _ => rfl⟩
  · exact ⟨_, cap, rfl, fun e => by cases e⟩
theorem below_drewN {B : Nat} {a w : World} (h : Below B a w) (n : Nat) : Below B a (w.drewN n) := ⟨h.os, h.tape, h.output, h.size, h.block⟩
set_option maxHeartbeats 2000000 in
theorem same_any (a b : Option Addr) (n c d : Nat) (l : List Lx.Tk) (w : World) (h1 : TkAt w a n c l) (h2 : TkAt w b n d l) :
    Calls Tryz.prog 9 #[.slice a n c, .slice b n d] w fun e w' => e = .returned (.bool true) ∧ Below w.heap.size w w' := by
  have H1 := Lib.hid h1
  have H2 := Lib.hid h2
  have n0 : (0 : Int) ≤ (n : Int) := by omega
  have n1 : (n : Int) ≤ 9223372036854775807 := by have := h1.le; have := h1.top; omega
  clear h1 h2
  go_enter Tryz.func9, Tryz.ntmps9
  go_upto_region 4 with fail
  go_loopw [5, 13] (fun s5 ii wr => ∃ j : Nat, j ≤ n ∧ ii = .int .i64 j ∧ Hid (Below w.heap.size w wr)) (fun s5 ii _ => n - (intOf ii).toNat)
  case atStart => exact ⟨0, Nat.zero_le _, rfl, Lib.hid (Below.refl _ _)⟩
  case round =>
    obtain ⟨j, hj, rfl, HB⟩ := hrel
    have i0 : (0 : Int) ≤ (j : Int) := by omega
    by_cases jlt : j < n
    · have i1 : (j : Int) < n := by omega
      obtain ⟨xb, xp, rfl, hx⟩ := H1.out.here (by omega)
      obtain ⟨yb, yp, rfl, hy⟩ := H2.out.here (by omega)
      have cx := hx j (by rw [H1.out.len]; exact jlt)
      have cy := hy j (by rw [H1.out.len]; exact jlt)
      obtain ⟨T, hT⟩ : ∃ T, l[j]'(by rw [H1.out.len]; exact jlt) = T := ⟨_, rfl⟩
      rw [hT] at cx cy
      obtain ⟨t1, t2, t3⟩ := T
      have c0 := cell_keep cx.1 HB.out
      have c1 := cell_keep cx.2.1 HB.out
      have c2 := cell_keep cx.2.2 HB.out
      have d0 := cell_keep cy.1 HB.out
      have d1 := cell_keep cy.2.1 HB.out
      have d2 := cell_keep cy.2.2 HB.out
      clear hx hy hT cx cy
      go_upto_region 6 with fail
      go_quiet (fail)
      clear c0 c1 c2 d0 d1 d2
      go_wp2
      go_roundw
      case rel => exact ⟨j + 1, by omega, by go_num, Lib.hid (below_drewN HB.out _)⟩
      case measure => simp [intOf]; omega
    · obtain rfl : j = n := by omega
      go_wp2
      go_returns
      exact ⟨rfl, HB.out⟩
end Go.Proofs.YthkddellilhhaaaGreatDoor
