/- Contract: awake. -/
import Derived.Test.YtijpejjkbioekaaW2
namespace Go.Proofs.Ytijpejjkbioekaa
set_option linter.unusedVariables false
set_option linter.unusedSimpArgs false
open Go.ChangeShapes Go.WideShapes Go.ChangeAt Go.RowKit
/-- A form that lies in a block. -/
structure La (F : Fv) (w0 w : World) (b : Nat) : Prop where
  at_ : F.At w
  blk : w.heap[b]? = some (.cells F.box 25 (0, 0))
  lo : w0.heap.size ≤ b
  bw : Below w0.heap.size w0 w
theorem La.keep {F : Fv} {w0 w w' : World} {b : Nat} (h : La F w0 w b) (k : Below w.heap.size w w') : La F w0 w' b :=
  ⟨h.at_.keep k, (k.block b (Array.getElem?_eq_some_iff.1 h.blk).1).trans h.blk, h.lo, h.bw.trans (k.mono h.bw.size)⟩
theorem La.cell {F : Fv} {w0 w : World} {b : Nat} (h : La F w0 w b) (k : Nat) : w.cell? ⟨b, k, none⟩ = F.box[k]? := cell_block h.blk k
theorem La.free {F : Fv} {w0 w : World} {b : Nat} (h : La F w0 w b) (k : Nat) : w.frozen? ⟨b, k, none⟩ = false := by
  unfold World.frozen?; rw [h.blk]; simp
theorem La.lt {F : Fv} {w0 w : World} {b : Nat} (h : La F w0 w b) : b < w.heap.size := (Array.getElem?_eq_some_iff.1 h.blk).1
theorem la_new {F : Fv} {w0 w : World} {b : Nat} (h : F.At w) (hb : w.heap.size = b) (k : Below w0.heap.size w0 w) : La F w0 (w.alloc (.cells F.box 25)) b :=
  ⟨h.keep ((Below.refl _ w).alloc (Nat.le_refl _) _), heap_at hb, by rw [← hb]; exact k.size, k.trans (((Below.refl _ w).alloc (Nat.le_refl _) _).mono k.size)⟩
theorem odAt_of {w : World} {g1 g2 : Nat} {i x y : Int} (h1 : w.heap[g1]? = some (.cells #[.int .i64 x, .int .i64 y] 43 (0, 0))) (h2 : w.heap[g2]? = some (.cells #[.int .i64 i, .slice (some ⟨g1, 0, none⟩) 1 1] 45 (0, 0))) (hi : -9223372036854775808 ≤ i ∧ i ≤ 9223372036854775807) : OdAt w (some ⟨g2, 0, none⟩) 1 1 [(i, [(x, y)])] := by
  refine ⟨rfl, Nat.le_refl _, by decide, (fun e => by cases e), fun _ => ⟨_, _, rfl, fun j hj => ?_⟩⟩
  obtain rfl : j = 0 := by simpa using hj
  refine ⟨cell_block h2 0, ⟨_, _, _, cell_block h2 1, rfl, Nat.le_refl _, (show 1 ≤ 9223372036854775807 by decide), (fun e => by cases e), fun _ => ⟨_, _, rfl, fun k hk => ?_⟩⟩, hi⟩
  obtain rfl : k = 0 := by simpa using hk
  exact ⟨cell_block h1 0, cell_block h1 1⟩
theorem coAt_free {w w' : World} {co : Option Addr} {n c b : Nat} {ls : List (List Sp)} (h : CoAt w co n c ls) (hg : w.grownBy w' (some b)) (ho : ∀ g p, co = some ⟨g, p, none⟩ → g ≠ b) : True := trivial
/-- The odd exceptions of a form in a block are set. -/
theorem La.put3 {F : Fv} {w0 w0' w : World} {b : Nat} (h : La F w0' w0 b) (hk : Below w0.heap.size w0 w) (oo : Option Addr) (on oc : Nat) (os : List Gr) (ho : OdAt w oo on oc os) (hs : ∀ o ∈ os, o.2.length ≤ 10000000000000) (hb : Fv.At F w) (hfc : ∀ W, W = w.setCell ⟨b, 3, none⟩ (.slice oo on oc) → CoAt W F.co F.cn F.cc F.cs ∧ OdAt W oo on oc os) : La ⟨F.P, F.N, F.co, F.cn, F.cc, oo, on, oc, F.cs, os⟩ w0' (w.setCell ⟨b, 3, none⟩ (.slice oo on oc)) b := by
  have h2 := h.keep hk
  obtain ⟨a1, a2⟩ := hfc _ rfl
  refine ⟨⟨hb.p1, hb.p2, hb.n1, hb.n2, a1, a2, hb.short.1, hs⟩, ?_, h.lo, h2.bw.setCell (p := ⟨b, 3, none⟩) h.lo _⟩
  rw [set_block h2.blk]; rfl
theorem small_weeks (P : Int) (os : List Gr) (co : Option Addr) (cc : Nat) (oo : Option Addr) (oc : Nat) (h : os = [] ∨ os = [(1, [(8, 11)])]) : (weeksF P os co cc oo oc).Small := by
  rcases h with rfl | rfl
  · exact ⟨(show 1 ≤ 12 by decide), (show 0 ≤ 8 by decide), (show 1 ≤ 60 by decide)⟩
  · exact ⟨(show 1 ≤ 12 by decide), (show 1 ≤ 8 by decide), (show 2 ≤ 60 by decide)⟩
theorem small_alone (oo : Option Addr) (oc : Nat) : (aloneF oo oc).Small := ⟨(show 0 ≤ 12 by decide), (show 1 ≤ 8 by decide), (show 1 ≤ 60 by decide)⟩
theorem right_yes (F : Fv) (w : World) (hF : F.At w) (hs : F.Small) (h : F.Rt) : Calls Try.prog 21 #[F.v] w fun e w' => e = .returned (.int .i64 0) ∧ Below w.heap.size w w' := right_small F w hF hs true ⟨fun _ => h, fun _ => rfl⟩
theorem right_no (F : Fv) (w : World) (hF : F.At w) (hs : F.Small) (h : ¬ F.Rt) : Calls Try.prog 21 #[F.v] w fun e w' => e = .returned (.int .i64 50) ∧ Below w.heap.size w w' := right_small F w hF hs false ⟨fun e => (by cases e), fun e => absurd e h⟩
section
variable (co : Option Addr) (cc : Nat) (oo : Option Addr) (oc : Nat)
theorem before_some (w : World) (hF : (weeksF 7 [(1, [(8, 11)])] co cc oo oc).At w) : Calls Try.prog 16 #[(weeksF 7 [(1, [(8, 11)])] co cc oo oc).v, .int .i64 1] w fun e w' => e = .returned (.tuple #[.int .i64 0, .bool true]) ∧ Below w.heap.size w w' := by
  refine (before_any _ 1 w hF ((rt_some co cc oo oc).ok (small_weeks _ _ _ _ _ _ (.inr rfl))) ⟨by decide, by decide⟩).mono ?_
  rintro e w' ⟨⟨j, ok, rfl, h1, h2⟩, hb⟩
  have h0 := gr_s0 co cc oo oc
  cases ok with
  | false => have := h2 rfl 0 (by decide) ⟨by decide, by decide⟩; rw [h0] at this; cases this
  | true =>
    obtain ⟨a, b, c⟩ := (h1 rfl).1.yes rfl
    have e : j = 0 := by
      by_cases e : j = 0
      · exact e
      · have := c 0 (by decide) (by omega); rw [h0] at this; cases this
    rw [e]; exact ⟨rfl, hb.out⟩
theorem behind_no (w : World) (hF : (aloneF oo oc).At w) : Calls Try.prog 15 #[(aloneF oo oc).v, .int .i64 3] w fun e w' => (∃ j, e = .returned (.tuple #[.int .i64 j, .bool false])) ∧ Below w.heap.size w w' := by
  refine (behind_any _ 3 w hF ((rt_alone oo oc).ok (small_alone oo oc)) ⟨by decide, by decide⟩).mono ?_
  rintro e w' ⟨⟨j, ok, rfl, h1, h2⟩, hb⟩
  cases ok with
  | false => exact ⟨⟨j, rfl⟩, hb.out⟩
  | true =>
    obtain ⟨a, b, c⟩ := (h1 rfl).1.yes rfl
    exact absurd (gr_aN oo oc j (by omega)) b
theorem behind_yes (w : World) (hF : (aloneF oo oc).At w) : Calls Try.prog 15 #[(aloneF oo oc).v, .int .i64 (-9)] w fun e w' => e = .returned (.tuple #[.int .i64 3, .bool true]) ∧ Below w.heap.size w w' := by
  refine (behind_any _ (-9) w hF ((rt_alone oo oc).ok (small_alone oo oc)) ⟨by decide, by decide⟩).mono ?_
  rintro e w' ⟨⟨j, ok, rfl, h1, h2⟩, hb⟩
  have h0 := gr_a3 oo oc
  cases ok with
  | false => have := h2 rfl 3 (by decide) ⟨by decide, by decide⟩; rw [h0] at this; cases this
  | true =>
    obtain ⟨a, b, c⟩ := (h1 rfl).1.yes rfl
    have e : j = 3 := by
      by_cases e : j = 3
      · exact e
      · exact absurd (gr_aN oo oc j e) b
    rw [e]; exact ⟨rfl, hb.out⟩
theorem get_over (w : World) (hF : (weeksF 7 [(1, [(8, 11)])] co cc oo oc).At w) : Calls Try.prog 9 #[(weeksF 7 [(1, [(8, 11)])] co cc oo oc).v, .int .i64 1099511627776] w fun e w' => (∃ v, e = .returned (.tuple #[v, .int .i64 20])) ∧ Below w.heap.size w w' := by
  refine (get_any _ 1099511627776 w hF ((rt_some co cc oo oc).ok (small_weeks _ _ _ _ _ _ (.inr rfl)))).mono ?_
  rintro e w' ⟨v, k, rfl, hb, hv⟩
  rcases hv.out with ⟨h, _⟩ | ⟨_, rfl, _⟩
  · have := h.2
    rw [gr_sT] at this
    have := this (7696581394432, 7696581394436) (by simp)
    simp at this
  · exact ⟨⟨v, rfl⟩, hb⟩
end
end Go.Proofs.Ytijpejjkbioekaa
