/- What a law of spans has laid: sets in memory, kept together; contracts in the form that laws want. -/
import Derived.Test.YthjpnnggghfepaaP1
import Derived.Test.YthjpnnggghfepaaU9
namespace Go.Proofs.Ythjpnnggghfepaa
set_option linter.unusedVariables false
set_option linter.unusedSimpArgs false
open Go.ChangeShapes Go.WideShapes Go.ChangeAt Go.RowKit
abbrev Sl := Option Addr × Nat × Nat × List Sp
/-- Slices that read as sets. -/
structure Ws (w0 w : World) (L : List Sl) : Prop where
  bw : Below w0.heap.size w0 w
  sp : ∀ x ∈ L, SpAt w x.1 x.2.1 x.2.2.1 x.2.2.2
theorem Ws.keep {w0 w w' : World} {L : List Sl} (h : Ws w0 w L) (k : Below w.heap.size w w') : Ws w0 w' L :=
  ⟨h.bw.trans (k.mono h.bw.size), fun x hx => (h.sp x hx).keep k⟩
theorem Ws.add {w0 w w' : World} {L : List Sl} (h : Ws w0 w L) (k : Below w.heap.size w w') {ao : Option Addr} {n c : Nat} {l : List Sp} (s : SpAt w' ao n c l) : Ws w0 w' ((ao, n, c, l) :: L) :=
  ⟨(h.keep k).bw, fun x hx => by
    rcases List.mem_cons.1 hx with rfl | hx
    · exact s
    · exact (h.keep k).sp x hx⟩
theorem Ws.at {w0 w : World} {L : List Sl} (h : Ws w0 w L) (ao : Option Addr) (n c : Nat) (l : List Sp) (hm : (ao, n, c, l) ∈ L) : SpAt w ao n c l := h.sp _ hm
theorem move_right' (l : List Sp) (ga : Good l) (d : Int) (hd1 : -9223372036854775808 ≤ d) (hd2 : d ≤ 9223372036854775807) (hok : ∀ s ∈ l, okSp d s) (ao : Option Addr) (n c : Nat) (hn : n ≤ 1000000) (w : World) (hl : SpAt w ao n c l) :
    Calls Try.prog 31 #[.slice ao n c, .int .i64 d] w fun e w' => ∃ ao' c', e = .returned (.tuple #[.slice ao' n c', .int .i64 0]) ∧ Hid (SpAt w' ao' n c' (moved l d)) ∧ Below w.heap.size w w' :=
  (move_right l ga d hd1 hd2 hok ao n c hn w hl).mono fun e w' ⟨ao', c', e1, h1, h2⟩ => ⟨ao', c', e1, Lib.hid h2, h1⟩
theorem move_wrong (l : List Sp) (ga : Good l) (d : Int) (hd1 : -9223372036854775808 ≤ d) (hd2 : d ≤ 9223372036854775807) (hok : ¬ ∀ s ∈ l, okSp d s) (ao : Option Addr) (n c : Nat) (hn : n ≤ 1000000) (w : World) (hl : SpAt w ao n c l) :
    Calls Try.prog 31 #[.slice ao n c, .int .i64 d] w fun e w' => e = .returned (.tuple #[.slice none 0 0, .int .i64 20]) ∧ Below w.heap.size w w' := by
  refine (move_any ao n c l ga hn d hd1 hd2 w hl).mono ?_
  rintro e w' ⟨v, k, e1, h3, h4⟩
  rcases h4 with ⟨h, _⟩ | ⟨_, rfl, rfl⟩
  · exact absurd h hok
  · exact ⟨e1, h3⟩
theorem move_v (l : List Sp) (ga : Good l) (d : Int) (hd1 : -9223372036854775808 ≤ d) (hd2 : d ≤ 9223372036854775807) (ao : Option Addr) (n c : Nat) (hn : n ≤ 1000000) (w : World) (hl : SpAt w ao n c l) :
    Calls Try.prog 31 #[.slice ao n c, .int .i64 d] w fun e w' => ∃ (v : Value) (k : Int), e = .returned (.tuple #[v, .int .i64 k]) ∧ Below w.heap.size w w' :=
  (move_any ao n c l ga hn d hd1 hd2 w hl).mono fun e w' ⟨v, k, e1, h3, _⟩ => ⟨v, k, e1, h3⟩
/-- Union, Cut, Less: what they tell, as a set in memory. -/
theorem union_sp (ao bo : Option Addr) (m1 c1 m2 c2 : Nat) (a b : List Sp) (ga : Good a) (gb : Good b) (h1 : m1 ≤ 1000000) (h2 : m2 ≤ 1000000) (w : World) (ha : SpAt w ao m1 c1 a) (hb : SpAt w bo m2 c2 b) :
    Calls Try.prog 18 #[.slice ao m1 c1, .slice bo m2 c2] w fun e w' => ∃ ro rn rc r, e = .returned (.slice ro rn rc) ∧ Hid (Good r ∧ (∀ t, mem r t ↔ mem a t ∨ mem b t) ∧ rn ≤ 2 * m1 + 2 * m2 ∧ SpAt w' ro rn rc r) ∧ Below w.heap.size w w' := by
  refine (union_any ao bo m1 c1 m2 c2 a b ga gb h1 h2 w ha hb).mono ?_
  rintro e w' ⟨v, r, e1, q1, q2, q3, q4, q5⟩
  obtain ⟨ao', c', rfl, q6⟩ := own_sp rfl q4
  exact ⟨ao', _, c', r, e1, Lib.hid ⟨q1, q2, q3, q6⟩, q5⟩
theorem cut_sp (ao bo : Option Addr) (m1 c1 m2 c2 : Nat) (a b : List Sp) (ga : Good a) (gb : Good b) (h1 : m1 ≤ 1000000) (h2 : m2 ≤ 1000000) (w : World) (ha : SpAt w ao m1 c1 a) (hb : SpAt w bo m2 c2 b) :
    Calls Try.prog 19 #[.slice ao m1 c1, .slice bo m2 c2] w fun e w' => ∃ ro rn rc r, e = .returned (.slice ro rn rc) ∧ Hid (Good r ∧ (∀ t, mem r t ↔ mem a t ∧ mem b t) ∧ rn ≤ 2 * m1 + 2 * m2 ∧ SpAt w' ro rn rc r) ∧ Below w.heap.size w w' := by
  refine (cut_any ao bo m1 c1 m2 c2 a b ga gb h1 h2 w ha hb).mono ?_
  rintro e w' ⟨v, r, e1, q1, q2, q3, q4, q5⟩
  obtain ⟨ao', c', rfl, q6⟩ := own_sp rfl q4
  exact ⟨ao', _, c', r, e1, Lib.hid ⟨q1, q2, q3, q6⟩, q5⟩
theorem less_sp (ao bo : Option Addr) (m1 c1 m2 c2 : Nat) (a b : List Sp) (ga : Good a) (gb : Good b) (h1 : m1 ≤ 1000000) (h2 : m2 ≤ 1000000) (w : World) (ha : SpAt w ao m1 c1 a) (hb : SpAt w bo m2 c2 b) :
    Calls Try.prog 20 #[.slice ao m1 c1, .slice bo m2 c2] w fun e w' => ∃ ro rn rc r, e = .returned (.slice ro rn rc) ∧ Hid (Good r ∧ (∀ t, mem r t ↔ mem a t ∧ ¬ mem b t) ∧ rn ≤ 2 * m1 + 2 * m2 ∧ SpAt w' ro rn rc r) ∧ Below w.heap.size w w' := by
  refine (less_any ao bo m1 c1 m2 c2 a b ga gb h1 h2 w ha hb).mono ?_
  rintro e w' ⟨v, r, e1, q1, q2, q3, q4, q5⟩
  obtain ⟨ao', c', rfl, q6⟩ := own_sp rfl q4
  exact ⟨ao', _, c', r, e1, Lib.hid ⟨q1, q2, q3, q6⟩, q5⟩
theorem count_v (ao : Option Addr) (n c : Nat) (l : List Sp) (w : World) (hw : SpAt w ao n c l) (hg : Good l) :
    Calls Try.prog 28 #[.slice ao n c] w fun e w' => ∃ x : Int, e = .returned (.int .i64 x) ∧ (Hid (x = count l) ∧ 0 ≤ x ∧ x ≤ 2199023255554) ∧ Below w.heap.size w w' :=
  (count_any ao n c l w hw hg).mono fun e w' ⟨h1, h2⟩ => ⟨_, h1, ⟨Lib.hid rfl, by
    obtain ⟨q1, q2, q3⟩ := count_le hg
    rcases q3 with rfl | q3
    · exact ⟨Int.le_refl 0, by show (0 : Int) ≤ _; omega⟩
    · exact ⟨q1, by omega⟩⟩, h2⟩
/-- Of two sets the same ticks. -/
theorem same_mem {a b : List Sp} (ga : Good a) (gb : Good b) (h : ∀ t, mem a t ↔ mem b t) : a = b := rt_unique ga gb h
end Go.Proofs.Ythjpnnggghfepaa
