/- A network that came in, opened to its cells. -/
import Derived.Test.YtnhbinghinlhgaaT1
import Derived.Test.YtnhbinghinlhgaaOpenT
namespace Go.Proofs.Ytnhbinghinlhgaa
set_option linter.unusedVariables false
set_option linter.unusedSimpArgs false
open Go.ChangeShapes Go.WideShapes Go.ChangeAt Go.RowKit
theorem cells30 : Try.prog.cellsOf 30 = 1 := by kernel_rfl
section
variable {H : Type} {enc : TypeId × Value → H} {w : World} {base : Nat} {spare : Nat → Bool} {held : Bool}
/-- A row that came in, wherever it lies. -/
structure RowIn (w : World) (ra : Option Addr) (L c : Nat) (x y : Nat → Int) : Prop where
  le : L ≤ c
  top : c ≤ 9223372036854775807
  bare : ra = none → L = 0 ∧ c = 0
  cells : 0 < L → ∃ b p, ra = some ⟨b, p, none⟩ ∧ RawRow w b p L x y
theorem open_row {fuel : Nat} {cs : List Value} {x : DataW H × List MemPlace} (h : DataW.trod enc Try.prog w base spare held fuel 30 cs = some x) : ∃ ra L c X Y, cs = [.slice ra L c] ∧ RowIn w ra L c X Y := by
  rcases Go.Deep.open_slice Try.underlying30 h with ⟨rfl, _⟩ | ⟨a, len, cap, m, n, D, Pl, rfl, hb, hl, hm, hmm, _, hi⟩
  · exact ⟨none, 0, 0, fun _ => 0, fun _ => 0, rfl, Nat.le_refl _, by omega, fun _ => ⟨rfl, rfl⟩, fun h => absurd h (Nat.lt_irrefl _)⟩
  · have hcap : cap ≤ 9223372036854775807 := by unfold maxLen at hm; omega
    have lm : len ≤ m := by rw [hmm]; split <;> omega
    have each : ∀ t : Nat, ∃ I J : Int, t < len → w.cell? (a.add (t * 2)) = some (.int .i8 I) ∧ w.cell? (a.add (t * 2 + 1)) = some (.int .i64 J) := by
      intro t
      by_cases ht : t < len
      · obtain ⟨cs', hc, ht'⟩ := hi t (by omega)
        rw [cells26] at hc
        obtain ⟨_, _, hat⟩ := World.cells?_some hc
        obtain ⟨u, v, rfl, _⟩ := open_bound ht'
        refine ⟨u, v, fun _ => ⟨?_, ?_⟩⟩
        · have := hat 0 (by decide); rw [Go.Deep.add_add] at this; exact this
        · have := hat 1 (by decide); rw [Go.Deep.add_add] at this; exact this
      · exact ⟨0, 0, fun h => absurd h ht⟩
    obtain ⟨I, hI⟩ := Classical.axiomOfChoice each
    obtain ⟨J, hJ⟩ := Classical.axiomOfChoice hI
    refine ⟨some a, len, cap, I, J, rfl, hl, hcap, (by intro e; cases e), fun h0 => ?_⟩
    obtain ⟨bl, ol, sp⟩ := a
    have hs : sp = none := by
      have := World.cell?_spot (hJ 0 h0).1
      simpa [Addr.add] using this
    subst hs
    simp only [add_off] at hJ
    exact ⟨bl, ol, rfl, fun j hj => (hJ j hj).1, fun j hj => (hJ j hj).2⟩
def NetIn (w : World) (v : Value) : Prop := ∃ ao N k ra L c X Y, v = .slice ao N k ∧ RawNet w ao N k ra L c X Y
theorem open_net {fuel : Nat} {cs : List Value} {x : DataW H × List MemPlace} (h : DataW.trod enc Try.prog w base spare held fuel 22 cs = some x) : ∃ v, cs = [v] ∧ NetIn w v := by
  rcases Go.Deep.open_slice Try.underlying22 h with ⟨rfl, _⟩ | ⟨a, len, cap, m, n, D, Pl, rfl, hb, hl, hm, hmm, _, hi⟩
  · exact ⟨_, rfl, none, 0, 0, fun _ => none, fun _ => 0, fun _ => 0, fun _ _ => 0, fun _ _ => 0, rfl, Nat.le_refl _, by omega, fun _ => ⟨rfl, rfl⟩, fun h => absurd h (Nat.lt_irrefl _), fun i hi => absurd hi (Nat.not_lt_zero _), fun i hi => absurd hi (Nat.not_lt_zero _)⟩
  · have hcap : cap ≤ 9223372036854775807 := by unfold maxLen at hm; omega
    have lm : len ≤ m := by rw [hmm]; split <;> omega
    have each : ∀ t : Nat, ∃ (q : Option Addr × Nat × Nat × (Nat → Int) × (Nat → Int)), t < len → w.cell? (a.add (t * 1)) = some (.slice q.1 q.2.1 q.2.2.1) ∧ RowIn w q.1 q.2.1 q.2.2.1 q.2.2.2.1 q.2.2.2.2 := by
      intro t
      by_cases ht : t < len
      · obtain ⟨cs', hc, ht'⟩ := hi t (by omega)
        rw [cells30] at hc
        obtain ⟨_, _, hat⟩ := World.cells?_some hc
        obtain ⟨ra, L, c, X, Y, rfl, hr⟩ := open_row ht'
        refine ⟨(ra, L, c, X, Y), fun _ => ⟨?_, hr⟩⟩
        have := hat 0 (by decide); rw [Go.Deep.add_add] at this; exact this
      · exact ⟨(none, 0, 0, fun _ => 0, fun _ => 0), fun h => absurd h ht⟩
    obtain ⟨q, hq⟩ := Classical.axiomOfChoice each
    refine ⟨_, rfl, some a, len, cap, fun i => (q i).1, fun i => (q i).2.1, fun i => (q i).2.2.1, fun i => (q i).2.2.2.1, fun i => (q i).2.2.2.2, rfl, hl, hcap, (by intro e; cases e), fun h0 => ?_, fun i hi => ⟨(hq i hi).2.le, (hq i hi).2.top, (hq i hi).2.bare⟩, fun i hi => (hq i hi).2.cells⟩
    obtain ⟨bl, ol, sp⟩ := a
    have hs : sp = none := by
      have := World.cell?_spot (hq 0 h0).1
      simpa [Addr.add] using this
    subst hs
    simp only [add_off, Nat.mul_one] at hq
    exact ⟨bl, ol, rfl, fun i hi => (hq i hi).1⟩
end
/-- A network that came in and is right is a network as the program lays one. -/
theorem raw_right {w : World} {g o N k : Nat} {ra : Nat → Option Addr} {L c : Nat → Nat} {X Y : Nat → Nat → Int} (h : RawNet w (some ⟨g, o, none⟩) N k ra L c X Y) (hr : RightIs N L X Y) :
    ∃ b p M, NetAt w g o N b p c M ∧ Fits N M := by
  have each : ∀ i, ∃ q : Nat × Nat, i < N → ra i = some ⟨q.1, q.2, none⟩ ∧ RawRow w q.1 q.2 N (X i) (Y i) := by
    intro i
    by_cases hi : i < N
    · obtain ⟨b, p, e, hc⟩ := h.cells i hi (by rw [(hr.2 i hi).1]; omega)
      rw [(hr.2 i hi).1] at hc
      exact ⟨(b, p), fun _ => ⟨e, hc⟩⟩
    · exact ⟨(0, 0), fun l => absurd l hi⟩
  obtain ⟨q, hq⟩ := Classical.axiomOfChoice each
  have enc : ∀ i j, i < N → j < N → infOf (if X i j = 0 then some (Y i j) else none) = X i j ∧ numOf (if X i j = 0 then some (Y i j) else none) = Y i j := by
    intro i j hi hj
    rcases (allowedB_iff _ _).1 ((hr.2 i hi).2 j hj) with ⟨e1, e2⟩ | ⟨e1, _⟩
    · rw [if_neg (by omega), e1, e2]; exact ⟨rfl, rfl⟩
    · rw [if_pos e1, e1]; exact ⟨rfl, rfl⟩
  refine ⟨fun i => (q i).1, fun i => (q i).2, fun i j => if X i j = 0 then some (Y i j) else none, ⟨fun i hi => ?_, fun i hi => ?_, fun i hi => ⟨fun j hj => ?_, fun j hj => ?_⟩⟩, fun i j hi hj => ?_⟩
  · obtain ⟨g', o', e, hrow⟩ := h.rows (by omega)
    cases e
    rw [hrow i hi, (hq i hi).1, (hr.2 i hi).1]
  · have := h.cap i hi
    rw [(hr.2 i hi).1] at this
    exact ⟨this.1, this.2.1⟩
  · rw [(enc i j hi hj).1]; exact (hq i hi).2.inf j hj
  · rw [(enc i j hi hj).2]; exact (hq i hi).2.num j hj
  · show Bd.within _ (if X i j = 0 then some (Y i j) else none)
    rcases (allowedB_iff _ _).1 ((hr.2 i hi).2 j hj) with ⟨e1, e2⟩ | ⟨e1, h1, h2⟩
    · rw [if_neg (by omega)]; trivial
    · rw [if_pos e1]; exact ⟨h1, h2⟩
end Go.Proofs.Ytnhbinghinlhgaa
