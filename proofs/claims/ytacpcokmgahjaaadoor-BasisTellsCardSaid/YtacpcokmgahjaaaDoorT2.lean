/- A form that the document's own answer puts together. -/
import Derived.Test.YtacpcokmgahjaaaDoorT1
import Derived.Maps.AppendAt
namespace Go.Proofs.YtacpcokmgahjaaaDoor
set_option linter.unusedVariables false
set_option linter.unusedSimpArgs false
open Go.ChangeShapes Go.WideShapes Go.ChangeAt Go.RowKit
theorem co_push {w w' : World} {B i : Nat} {v v' : Value} {xs : List Value} {u : Value} {ls : List (List Sp)} {L : List Sp} (h0 : w.ownsRow B 38 1 v i xs) (hg : w.grownBy w' v.ownBlock) (hr : w'.ownsRow B 38 1 v' (i + 1) (xs ++ [u])) (hl : ls.length = i) (hi : ∀ j (h : j < ls.length), ∃ u, xs[j]? = some u ∧ w.ownsRow B 42 2 u ls[j].length (spCells ls[j])) (hu : w.ownsRow B 42 2 u L.length (spCells L)) : CoOwn w' B v' (i + 1) (ls ++ [L]) := by
  have off : Off w B 42 v.ownBlock := fun q e => by obtain ⟨cur, t⟩ := own_typed h0 e; exact .inr ⟨cur, 38, t, by decide⟩
  have hx : xs.length = i := by have := h0.1; omega
  refine ⟨by simp [hl], _, hr, fun j hj => ?_⟩
  by_cases q : j < ls.length
  · obtain ⟨u', a, b⟩ := hi j q
    exact ⟨u', by rw [List.getElem?_append_left (by omega)]; exact a, by rw [List.getElem_append_left q]; exact own_off b hg off⟩
  · have e : j = ls.length := by simp at hj; omega
    subst e
    exact ⟨u, by rw [List.getElem?_append_right (by omega)]; simp [hx, hl], by simpa using own_off hu hg off⟩
/-- The form under way: vb lies in its box, vo is the list as it is. -/
structure Fm (w0 w : World) (ro fb : Nat) (P N : Int) (vb vo : Value) (j : Nat) (ls : List (List Sp)) : Prop where
  bw : Below w0.heap.size w0 w
  lo : w0.heap.size ≤ ro
  lo2 : w0.heap.size ≤ fb
  ne : ro ≠ fb
  res : w.heap[ro]? = some (.cells #[.int .i64 0, .int .i64 0, .slice none 0 0, .slice none 0 0] 29 (0, 0))
  fbx : w.heap[fb]? = some (.cells #[.int .i64 P, .int .i64 N, vb, .slice none 0 0] 29 (0, 0))
  own : CoOwn w w0.heap.size vo j ls
theorem Fm.put {w0 w : World} {ro fb : Nat} {P N : Int} {vb vo : Value} {j : Nat} {ls : List (List Sp)} (h : Fm w0 w ro fb P N vb vo j ls) : Fm w0 (w.setCell ⟨fb, 2, none⟩ vo) ro fb P N vo vo j ls := by
  have gr := grow_cell w ⟨fb, 2, none⟩ vo
  have off : ∀ e : Nat, 29 ≠ e → Off w w0.heap.size e (some fb) := fun e he q z => by cases z; exact .inr ⟨_, 29, h.fbx, he⟩
  refine ⟨h.bw.setCell (p := ⟨fb, 2, none⟩) h.lo2 vo, h.lo, h.lo2, h.ne, (gr.block ro (Array.getElem?_eq_some_iff.1 h.res).1 (fun z => h.ne (by cases z; rfl))).trans h.res, ?_, h.own.grown gr (off _ (by decide)) (off _ (by decide))⟩
  rw [set_block h.fbx]; rfl
theorem own_pair (w : World) (B : Nat) (hB : B ≤ w.heap.size) (a b : Int) : (w.alloc (.cells #[.int .i64 a, .int .i64 b] 42)).ownsRow B 42 2 (.slice (some ⟨w.heap.size, 0, none⟩) 1 1) 1 (spCells [(a, b)]) :=
  ⟨rfl, .inr ⟨w.heap.size, 1, #[.int .i64 a, .int .i64 b], rfl, hB, al_new w _, Nat.le_refl _, by unfold maxLen; omega, rfl, rfl⟩⟩
theorem appC {w0 wr : World} {ro fb : Nat} {P N : Int} {ops : Array Oper} {rest : List Oper} {o : Oper} {a : Act} {Q : Exit → Act → World → Prop} (hgd : o.guard = none) (s x : Operand)
    (ho : o.op = .call { callee := .builtin .append, args := #[s, x], argTypes := #[26, 26] }) (v : Value) (j : Nat) (ls : List (List Sp)) (hs : a.eval s = v) (he : Fm w0 wr ro fb P N v v j ls) (A B : Int) (hx : a.eval x = .slice (some ⟨wr.heap.size + 1, 0, none⟩) 1 1) (hn : j ≤ 4800)
    (h : ∀ a2 c2 w', Fm w0 w' ro fb P N v (.slice a2 (j + 1) c2) (j + 1) (ls ++ [[(A, B)]]) → wpList Tryd.prog ops Q rest (a.put o.dst (.slice a2 ((j + 1 : Nat)) c2)) w') : wpList Tryd.prog ops Q (o :: rest) a ((wr.alloc (.cells #[.int .i64 A, .int .i64 B] 42)).alloc (.cells #[.slice (some ⟨wr.heap.size, 0, none⟩) 1 1] 38)) := by
  obtain ⟨k0, hk, hkz0, hkz1, hkz2⟩ := info_parts info38
  obtain ⟨xs, hown, hvs⟩ := he.own.row
  have hlen := he.own.len
  have hB := he.bw.size
  have up := own_pair wr w0.heap.size hB A B
  obtain ⟨w1, hw1⟩ : ∃ z, wr.alloc (.cells #[.int .i64 A, .int .i64 B] 42) = z := ⟨_, rfl⟩
  rw [hw1] at up ⊢
  have K1 : Below wr.heap.size wr w1 := by rw [← hw1]; exact (Below.refl _ wr).alloc (Nat.le_refl _) _
  have z1 : w1.heap.size = wr.heap.size + 1 := by rw [← hw1]; simp
  have KA := (Below.refl _ w1).alloc (Nat.le_refl _) (.cells #[.slice (some ⟨wr.heap.size, 0, none⟩) 1 1] 38)
  have KT : Below wr.heap.size wr (w1.alloc (.cells #[.slice (some ⟨wr.heap.size, 0, none⟩) 1 1] 38)) := K1.trans (KA.mono K1.size)
  rw [← z1] at hx
  refine wpList_append_own_at _ hgd s x 26 ho w0.heap.size 38 k0 (.slice none 0 0) 1 24 Tryd.underlying26 hk hkz0 hkz1 hkz2 rfl (by decide) v j xs hs (keepB hown KT) ⟨w1.heap.size, 0, none⟩ 1 1 [.slice (some ⟨wr.heap.size, 0, none⟩) 1 1] hx rfl (World.news_of_block (cs := #[.slice (some ⟨wr.heap.size, 0, none⟩) 1 1]) (t := 38) (fr := (0, 0)) (al_new w1 _)) (by simp [Value.oneCell']) (by unfold maxLen; omega) (by omega) (by have := KT.size; omega) ?_
  intro v' w' hown' hgro _ _
  have BT : Below w0.heap.size w0 (w1.alloc (.cells #[.slice (some ⟨wr.heap.size, 0, none⟩) 1 1] 38)) := he.bw.trans (KT.mono he.bw.size)
  have hb : Below w0.heap.size w0 w' := BT.grown hgro BT.size (fun q e => (hown.lt q e).1)
  have hne : ∀ q, v.ownBlock = some q → q ≠ ro ∧ q ≠ fb := fun q e => by
    obtain ⟨cur, t⟩ := own_typed hown e
    refine ⟨fun z => ?_, fun z => ?_⟩
    · subst z; rw [he.res] at t; cases t
    · subst z; rw [he.fbx] at t; cases t
  have lr := (Array.getElem?_eq_some_iff.1 he.res).1
  have lf := (Array.getElem?_eq_some_iff.1 he.fbx).1
  have hc : CoOwn w' w0.heap.size v' (j + 1) (ls ++ [[(A, B)]]) := co_push (keepB hown KT) hgro hown' hlen (fun i hi => by obtain ⟨u, e1, e2⟩ := hvs i hi; exact ⟨u, e1, keepB e2 KT⟩) (keepB up KA)
  obtain ⟨a2, c2, rfl, _⟩ := hc.vs
  refine h a2 c2 w' ⟨hb, he.lo, he.lo2, he.ne, ?_, ?_, hc⟩
  · exact (hgro.block ro (Nat.lt_of_lt_of_le lr KT.size) (fun e => (hne ro e.symm).1 rfl)).trans ((KT.block ro lr).trans he.res)
  · exact (hgro.block fb (Nat.lt_of_lt_of_le lf KT.size) (fun e => (hne fb e.symm).2 rfl)).trans ((KT.block fb lf).trans he.fbx)
theorem CoOwn.nil (w : World) (B : Nat) : CoOwn w B (.slice none 0 0) 0 [] := ⟨rfl, [], World.ownsRow_nil _ _ _ _, fun i h => absurd h (Nat.not_lt_zero _)⟩
end Go.Proofs.YtacpcokmgahjaaaDoor
