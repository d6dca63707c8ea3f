/- What is appended: spans that lie in memory; numbers laid by the call. -/
import Derived.Test.YthjpnnggghfepaaQ4
import Derived.Test.YthjpnnggghfepaaR4
import Derived.Laws.AppendOwnNone
namespace Go.Proofs.Ythjpnnggghfepaa
set_option linter.unusedVariables false
set_option linter.unusedSimpArgs false
open Go.ChangeShapes Go.WideShapes Go.ChangeAt Go.RowKit
theorem spCells_append : ∀ (l k : List Sp), spCells (l ++ k) = spCells l ++ spCells k
  | [], k => rfl
  | s :: r, k => by simp [spCells, spCells_append r k]
theorem appSp {w0 w : World} {ops : Array Oper} {rest : List Oper} {o : Oper} {a : Act} {Q : Exit → Act → World → Prop} (hgd : o.guard = none) (s x : Operand)
    (ho : o.op = .call { callee := .builtin .append, args := #[s, x], argTypes := #[22, 22] }) (B : Nat) (v : Value) (n : Nat) (l : List Sp) (hs : a.eval s = v) (hown : w.ownsRow B 35 2 v n (spCells l))
    (ao : Option Addr) (m c : Nat) (k : List Sp) (hx : a.eval x = .slice ao m c) (hk : SpAt w ao m c k) (hn : n ≤ 1000000) (hm : m ≤ 1000000) (hB : Below B w0 w) (h0 : B ≤ w0.heap.size)
    (h : ∀ v' w', w'.ownsRow B 35 2 v' (n + m) (spCells (l ++ k)) → Below B w0 w' → wpList Try.prog ops Q rest (a.put o.dst v') w') : wpList Try.prog ops Q (o :: rest) a w := by
  obtain ⟨i0, hi, hz0, hz1, hz2⟩ := info_parts info35
  have hBs : B ≤ w.heap.size := Nat.le_trans h0 hB.size
  cases ao with
  | none =>
    obtain ⟨rfl, rfl⟩ := hk.bare rfl
    obtain rfl : k = [] := List.eq_nil_of_length_eq_zero hk.len
    refine wpList_append_own_none hgd s x 22 ho B 35 i0 2 Try.underlying22 hi v n (spCells l) hs hown hx ?_
    exact h v w (by simpa using hown) hB
  | some ad =>
    refine wpList_append_own _ hgd s x 22 ho B 35 i0 (.agg #[.int .i64 0, .int .i64 0]) 2 16 Try.underlying22 hi hz0 hz1 hz2 rfl (by decide) v n (spCells l) hs hown ad m c (spCells k) hx (by rw [spCells_length, hk.len]) (sp_all' hk) (spCells_one k) (by unfold maxLen; omega) (by omega) hBs ?_
    intro v' w' hown' hgro _
    exact h v' w' (by rw [spCells_append]; exact hown') (hB.grown hgro hBs (fun q hq => (hown.lt q hq).1))
theorem inC_append (l k : List Int) : inC (l ++ k) = inC l ++ inC k := by simp [inC]
/-- Numbers more, behind numbers of the call's own. -/
theorem appN {w0 wr : World} {ops : Array Oper} {rest : List Oper} {o : Oper} {a : Act} {Q : Exit → Act → World → Prop} (hgd : o.guard = none) (s x : Operand)
    (ho : o.op = .call { callee := .builtin .append, args := #[s, x], argTypes := #[41, 41] }) (B : Nat) (v : Value) (n : Nat) (l : List Int) (hs : a.eval s = v) (hown : wr.ownsRow B 3 1 v n (inC l)) (ys : List Int) (tt : TypeId) (m c : Nat) (H : Nat) (hH : wr.heap.size = H) (hx : a.eval x = .slice (some ⟨H, 0, none⟩) m c) (cells : Array Value) (hcs : cells = (inC ys).toArray) (hm : ys.length = m) (hn : n ≤ 1000000) (hm2 : m ≤ 1000) (hB : Below B w0 wr) (h0 : B ≤ w0.heap.size)
    (h : ∀ v' w', w'.ownsRow B 3 1 v' (n + m) (inC (l ++ ys)) → Below B w0 w' → (∀ q, q < wr.heap.size → v.ownBlock ≠ some q → v'.ownBlock ≠ some q ∧ w'.heap[q]? = wr.heap[q]?) → wpList Try.prog ops Q rest (a.put o.dst v') w') : wpList Try.prog ops Q (o :: rest) a (wr.alloc (.cells cells tt)) := by
  subst hcs hH
  obtain ⟨i0, hi, hz0, hz1, hz2⟩ := info_parts info3
  have KA := (Below.refl _ wr).alloc (Nat.le_refl _) (.cells (inC ys).toArray tt)
  have hBs : B ≤ wr.heap.size := Nat.le_trans h0 hB.size
  have hcell : ∀ (j : Nat) (u : Value), (inC ys)[j]? = some u → (wr.alloc (.cells (inC ys).toArray tt)).cell? ((⟨wr.heap.size, 0, none⟩ : Addr).add j) = some u := by
    intro j u hu
    have hh : (wr.alloc (.cells (inC ys).toArray tt)).heap[wr.heap.size]? = some (.cells (inC ys).toArray tt) := by
      show (wr.heap.push _)[wr.heap.size]? = _
      simp
    rw [add_off, Nat.zero_add]
    unfold World.cell?
    rw [hh]
    simpa using hu
  refine wpList_append_own_at _ hgd s x 41 ho B 3 i0 (.int .i64 0) 1 8 Try.underlying41 hi hz0 hz1 hz2 rfl (by decide) v n (inC l) hs (keepB hown KA) ⟨wr.heap.size, 0, none⟩ m c (inC ys) hx (by rw [inC_len, hm]; simp) hcell (by intro z hz; simp [inC] at hz; obtain ⟨y, _, rfl⟩ := hz; rfl) (by unfold maxLen; omega) (by omega) (by simp; omega) ?_
  intro v' w' hown' hgro _ hat
  refine h v' w' (by rw [inC_append]; exact hown') ?_ (fun q hq hne => ⟨fun e => ?_, ?_⟩)
  rotate_left 1
  · rcases hat with e2 | e2
    · exact hne (e2.symm.trans e)
    · rw [e] at e2; simp at e2; omega
  · rw [hgro.block q (by simp; omega) (fun e => hne e.symm)]
    exact KA.block q hq
  exact (hB.trans (KA.mono hBs)).grown hgro (by simp; omega) (fun q hq => (hown.lt q hq).1)
end Go.Proofs.Ythjpnnggghfepaa
