/- A calendar that was asked, a form that was told, a granule that was got. -/
import Derived.Test.YtacpcokmgahjaaaDoorB13
namespace Go.Proofs.YtacpcokmgahjaaaDoor
set_option linter.unusedVariables false
set_option linter.unusedSimpArgs false
open Go.ChangeShapes Go.WideShapes Go.ChangeAt Go.RowKit
/-- A calendar that at most b names were asked of. -/
def CalOk (w : World) (c k g b : Nat) : Prop := 0 < g ∧ ∃ m st n, Cd w m c k g st n ∧ 0 ≤ n ∧ n ≤ (b : Int)
theorem CalOk.keep {w w' : World} {c k g b : Nat} (h : CalOk w c k g b) (q : Below w.heap.size w w') : CalOk w' c k g b := by
  obtain ⟨g0, m, st, n, hC, n0, n1⟩ := h
  exact ⟨g0, m, st, n, hC.keep q, n0, n1⟩
theorem new_cal (w : World) : Calls Tryd.prog 8 #[] w fun e w' => ∃ c k g, e = .returned (.pointer (some ⟨c, 0, none⟩)) ∧ Hid (CalOk w' c k g 0) ∧ Hid (w.heap.size ≤ c ∧ w.heap.size ≤ k ∧ w.heap.size ≤ g) ∧ Hid (Below w.heap.size w w') := by
  refine (new_any w).mono ?_
  rintro e w' ⟨c, k, g, rfl, hC, hL, hB⟩
  have hl := hL.out
  exact ⟨c, k, g, rfl, Lib.hid ⟨by omega, _, _, _, hC.out, Int.le_refl _, Int.le_refl _⟩, Lib.hid ⟨hl.1, hl.2.1, Nat.le_of_lt hl.2.2⟩, hB⟩
theorem nm_ne (i j : Nat) (hi : i < 6) (hj : j < i) : ((nm j).toList == (nm i).toList) = false := by
  match i, hi with
  | 0, _ => exact absurd hj (Nat.not_lt_zero _)
  | 1, _ =>
    match j, hj with
    | 0, _ => have h : ((nm 0).toList == (nm 1).toList) = false := by kernel_rfl
              exact h
  | 2, _ =>
    match j, hj with
    | 0, _ => have h : ((nm 0).toList == (nm 2).toList) = false := by kernel_rfl
              exact h
    | 1, _ => have h : ((nm 1).toList == (nm 2).toList) = false := by kernel_rfl
              exact h
  | 3, _ =>
    match j, hj with
    | 0, _ => have h : ((nm 0).toList == (nm 3).toList) = false := by kernel_rfl
              exact h
    | 1, _ => have h : ((nm 1).toList == (nm 3).toList) = false := by kernel_rfl
              exact h
    | 2, _ => have h : ((nm 2).toList == (nm 3).toList) = false := by kernel_rfl
              exact h
  | 4, _ =>
    match j, hj with
    | 0, _ => have h : ((nm 0).toList == (nm 4).toList) = false := by kernel_rfl
              exact h
    | 1, _ => have h : ((nm 1).toList == (nm 4).toList) = false := by kernel_rfl
              exact h
    | 2, _ => have h : ((nm 2).toList == (nm 4).toList) = false := by kernel_rfl
              exact h
    | 3, _ => have h : ((nm 3).toList == (nm 4).toList) = false := by kernel_rfl
              exact h
  | 5, _ =>
    match j, hj with
    | 0, _ => have h : ((nm 0).toList == (nm 5).toList) = false := by kernel_rfl
              exact h
    | 1, _ => have h : ((nm 1).toList == (nm 5).toList) = false := by kernel_rfl
              exact h
    | 2, _ => have h : ((nm 2).toList == (nm 5).toList) = false := by kernel_rfl
              exact h
    | 3, _ => have h : ((nm 3).toList == (nm 5).toList) = false := by kernel_rfl
              exact h
    | 4, _ => have h : ((nm 4).toList == (nm 5).toList) = false := by kernel_rfl
              exact h
theorem od_none {w W : World} {oo : Option Addr} {oc : Nat} (h : OdAt w oo 0 oc []) : OdAt W oo 0 oc [] := ⟨rfl, Nat.zero_le _, h.top, h.bare, fun h => absurd h (Nat.lt_irrefl _)⟩
theorem bF_at {i : Nat} {co oo : Option Addr} {cc oc : Nat} {w : World} (hc : CoAt w co (bN i) cc (bC i)) (ho : OdAt w oo 0 oc []) : (bF i co cc oo oc).At w := by
  have hp := bP_bd i
  have hn := bN_bd i
  exact ⟨(by show -9223372036854775808 ≤ bP i; omega), (by show bP i ≤ 9223372036854775807; omega), (by show -9223372036854775808 ≤ (bN i : Int); omega), (by show (bN i : Int) ≤ 9223372036854775807; omega), hc, ho, ⟨fun l hl => by rw [bC_one i l hl]; decide, fun o ho => by cases ho⟩⟩
theorem form_cal (i : Nat) (hi : i < 6) (w : World) (c k g b : Nat) (hb : b < 1000) (hT : Tab w) (hC : CalOk w c k g b) :
    Calls Tryd.prog 11 #[.pointer (some ⟨c, 0, none⟩), .string (nm i)] w fun e w' => ∃ (co : Option Addr) (cc : Nat) (oo : Option Addr) (oc : Nat), e = .returned (.tuple #[.agg #[.int .i64 (bP i), .int .i64 (bN i : Int), .slice co (bN i) cc, .slice oo 0 oc], .int .i64 0]) ∧ Hid ((bF i co cc oo oc).At w') ∧ Hid (CalOk w' c k g (b + 1)) ∧ Hid (But2 k g w w') := by
  obtain ⟨g0, m, st, n, hC, n0, n1⟩ := hC
  refine (form_hit i hi w m c k g st n n0 (by omega) hT g0 (nm i) (fun j hj => nm_ne i j hi hj) (by simp) hC).mono ?_
  rintro e w' ⟨a3, c3, a4, c4, rfl, ho, hr, hq⟩
  obtain ⟨B, h1, h2, o, od⟩ := ho.out
  obtain ⟨m2, hm⟩ := hr.out w' ⟨Nat.le_refl _, fun _ _ _ => rfl⟩
  refine ⟨a3, c3, a4, c4, rfl, Lib.hid ?_, Lib.hid ⟨g0, m2, _, _, hm, ?_, ?_⟩, hq⟩
  · obtain ⟨ao, cx, e, x⟩ := o.vs
    cases e
    obtain ⟨ao, cx, e, y⟩ := od.vs
    cases e
    exact bF_at x y
  · unfold cntB; split <;> omega
  · unfold cntB; split <;> omega
/-- A form told, in a box of its own. -/
structure Bk (i : Nat) (w0 w : World) (b : Nat) (co : Option Addr) (cc : Nat) (oo : Option Addr) (oc : Nat) : Prop where
  box : w.heap[b]? = some (.cells #[.int .i64 (bP i), .int .i64 (bN i : Int), .slice co (bN i) cc, .slice oo 0 oc] 29 (0, 0))
  at_ : (bF i co cc oo oc).At w
  bw : Below w0.heap.size w0 w
theorem Bk.keep {i b cc oc : Nat} {co oo : Option Addr} {w0 w w' : World} (h : Bk i w0 w b co cc oo oc) (q : Below w.heap.size w w') : Bk i w0 w' b co cc oo oc :=
  ⟨(q.block b (Array.getElem?_eq_some_iff.1 h.box).1).trans h.box, h.at_.keep q, h.bw.trans (q.mono h.bw.size)⟩
theorem Bk.new {i cc oc : Nat} {co oo : Option Addr} {w0 w : World} (h : (bF i co cc oo oc).At w) (hb : Below w0.heap.size w0 w) : Bk i w0 (w.alloc (.cells #[.int .i64 (bP i), .int .i64 (bN i : Int), .slice co (bN i) cc, .slice oo 0 oc] 29)) w.heap.size co cc oo oc :=
  ⟨al_new w _, h.keep ((Below.refl _ w).alloc (Nat.le_refl _) _), hb.alloc hb.size _⟩
theorem right_bas (i : Nat) (co : Option Addr) (cc : Nat) (oo : Option Addr) (oc : Nat) (w : World) (hF : (bF i co cc oo oc).At w) :
    Calls Tryd.prog 16 #[.agg #[.int .i64 (bP i), .int .i64 (bN i : Int), .slice co (bN i) cc, .slice oo 0 oc]] w fun e w' => e = .returned (.int .i64 0) ∧ Below w.heap.size w w' :=
  right_mid (bF i co cc oo oc) w hF (bF_mid i co cc oo oc) true ⟨fun _ => bF_rt i co cc oo oc, fun _ => rfl⟩
/-- A granule of one span. -/
def OneAt (w : World) (l o : Nat) (a b : Int) : Prop := w.cell? ⟨l, o, none⟩ = some (.int .i64 a) ∧ w.cell? ⟨l, o + 1, none⟩ = some (.int .i64 b)
theorem OneAt.keep {w w' : World} {l o : Nat} {a b : Int} (h : OneAt w l o a b) (q : Below w.heap.size w w') : OneAt w' l o a b := ⟨cell_keep h.1 q, cell_keep h.2 q⟩
theorem get_bas (i : Nat) (co : Option Addr) (cc : Nat) (oo : Option Addr) (oc : Nat) (q : Int) (h0 : -1090000000 ≤ q) (h1 : q ≤ 1090000000) (w : World) (hF : (bF i co cc oo oc).At w) :
    Calls Tryd.prog 17 #[.agg #[.int .i64 (bP i), .int .i64 (bN i : Int), .slice co (bN i) cc, .slice oo 0 oc], .int .i64 q] w fun e w' => ∃ l o lc, e = .returned (.tuple #[.slice (some ⟨l, o, none⟩) 1 lc, .int .i64 0]) ∧ Hid (OneAt w' l o (bB i q) (bB i (q + 1) - 1)) ∧ Hid (Below w.heap.size w w') := by
  have rt := bF_rt i co cc oo oc
  refine (get_any (bF i co cc oo oc) q w hF (ok_mid (bF_mid i co cc oo oc) rt.meas rt.core rt.odd)).mono ?_
  rintro e w' ⟨v, k, rfl, hq, ht⟩
  rcases ht.out with ⟨_, rfl, ho⟩ | ⟨hn, _⟩
  · obtain ⟨ao, c, rfl, hs⟩ := own_sp rfl ho
    rw [bF_gr] at hs
    obtain ⟨b, p, rfl, hc⟩ := hs.here (by show 0 < 1; decide)
    have x := hc 0 (by show 0 < 1; decide)
    refine ⟨b, p, c, by rw [bF_gr]; rfl, Lib.hid ⟨?_, ?_⟩, Lib.hid hq⟩
    · simpa using x.1
    · simpa using x.2
  · exact absurd (bF_told i co cc oo oc h0 h1) hn
end Go.Proofs.YtacpcokmgahjaaaDoor
