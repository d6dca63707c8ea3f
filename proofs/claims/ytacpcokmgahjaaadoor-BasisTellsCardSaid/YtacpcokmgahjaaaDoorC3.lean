/- Contract: Copy. -/
import Derived.Test.YtacpcokmgahjaaaDoorC2
import Derived.Test.YtacpcokmgahjaaaDoorG11
import Derived.Test.YtacpcokmgahjaaaDoorG8
namespace Go.Proofs.YtacpcokmgahjaaaDoor
set_option linter.unusedVariables false
set_option linter.unusedSimpArgs false
open Go.ChangeShapes Go.WideShapes Go.ChangeAt Go.RowKit
theorem own_typed {w : World} {B e s n : Nat} {v : Value} {xs : List Value} (h : w.ownsRow B e s v n xs) {g : Nat} (hg : v.ownBlock = some g) : ∃ cur, w.heap[g]? = some (.cells cur e (0, 0)) := by
  rcases h.2 with ⟨rfl, _⟩ | ⟨g', cap, cur, rfl, _, h3, _⟩
  · simp [Value.ownBlock] at hg
  · simp [Value.ownBlock] at hg
    subst hg
    exact ⟨cur, h3⟩
/-- A row is not the block that grows. -/
def Off (w : World) (B e : Nat) (row : Option Nat) : Prop := ∀ q, row = some q → q < B ∨ ∃ cur t, w.heap[q]? = some (.cells cur t (0, 0)) ∧ t ≠ e
theorem own_off {w w' : World} {B e s n : Nat} {v : Value} {xs : List Value} {row : Option Nat} (h : w.ownsRow B e s v n xs) (hg : w.grownBy w' row) (ho : Off w B e row) : w'.ownsRow B e s v n xs := by
  refine h.kept hg ?_
  cases hv : v.ownBlock with
  | none => exact .inl rfl
  | some g =>
    refine .inr (fun hr => ?_)
    rcases ho g hr.symm with q | ⟨cur, t, h1, h2⟩
    · have := (h.lt g hv).1; omega
    · obtain ⟨cur', h3⟩ := own_typed h hv
      rw [h3] at h1
      cases h1
      exact h2 rfl
/-- A slice of sets in memory of the call's own. -/
structure CoOwn (w : World) (B : Nat) (v : Value) (n : Nat) (ls : List (List Sp)) : Prop where
  len : ls.length = n
  row : ∃ xs, w.ownsRow B 38 1 v n xs ∧ ∀ i (h : i < ls.length), ∃ u, xs[i]? = some u ∧ w.ownsRow B 42 2 u ls[i].length (spCells ls[i])
theorem CoOwn.grown {w w' : World} {B n : Nat} {v : Value} {ls : List (List Sp)} {row : Option Nat} (h : CoOwn w B v n ls) (hg : w.grownBy w' row) (h1 : Off w B 38 row) (h2 : Off w B 42 row) : CoOwn w' B v n ls := by
  obtain ⟨xs, a, b⟩ := h.row
  exact ⟨h.len, xs, own_off a hg h1, fun i hi => by obtain ⟨u, c, d⟩ := b i hi; exact ⟨u, c, own_off d hg h2⟩⟩
theorem CoOwn.keep {w w' : World} {B n : Nat} {v : Value} {ls : List (List Sp)} (h : CoOwn w B v n ls) (k : Below w.heap.size w w') : CoOwn w' B v n ls := h.grown (grown_of_below k) (fun q e => by cases e) (fun q e => by cases e)
theorem CoOwn.vs {w : World} {B n : Nat} {v : Value} {ls : List (List Sp)} (h : CoOwn w B v n ls) : ∃ ao c, v = .slice ao n c ∧ CoAt w ao n c ls := by
  obtain ⟨xs, a, b⟩ := h.row
  refine own_co a h.len ⟨by rw [a.1, h.len]; simp, fun i hi => ?_⟩
  obtain ⟨u, c, d⟩ := b i hi
  obtain ⟨ao, cp, rfl, z⟩ := own_sp rfl d
  exact ⟨ao, _, cp, c, z⟩
/-- A slice of exceptions in memory of the call's own. -/
structure OdOwn (w : World) (B : Nat) (v : Value) (n : Nat) (os : List Gr) : Prop where
  len : os.length = n
  row : ∃ xs, w.ownsRow B 75 2 v n xs ∧ ∀ i (h : i < os.length), xs[i * 2]? = some (.int .i64 os[i].1) ∧ (∃ u, xs[i * 2 + 1]? = some u ∧ w.ownsRow B 42 2 u os[i].2.length (spCells os[i].2)) ∧ -9223372036854775808 ≤ os[i].1 ∧ os[i].1 ≤ 9223372036854775807
theorem OdOwn.grown {w w' : World} {B n : Nat} {v : Value} {os : List Gr} {row : Option Nat} (h : OdOwn w B v n os) (hg : w.grownBy w' row) (h1 : Off w B 75 row) (h2 : Off w B 42 row) : OdOwn w' B v n os := by
  obtain ⟨xs, a, b⟩ := h.row
  exact ⟨h.len, xs, own_off a hg h1, fun i hi => by obtain ⟨q, ⟨u, c, d⟩, z⟩ := b i hi; exact ⟨q, ⟨u, c, own_off d hg h2⟩, z⟩⟩
theorem OdOwn.keep {w w' : World} {B n : Nat} {v : Value} {os : List Gr} (h : OdOwn w B v n os) (k : Below w.heap.size w w') : OdOwn w' B v n os := h.grown (grown_of_below k) (fun q e => by cases e) (fun q e => by cases e)
theorem OdOwn.vs {w : World} {B n : Nat} {v : Value} {os : List Gr} (h : OdOwn w B v n os) : ∃ ao c, v = .slice ao n c ∧ OdAt w ao n c os := by
  obtain ⟨xs, a, b⟩ := h.row
  refine own_od a h.len ⟨by rw [a.1, h.len], fun i hi => ?_⟩
  obtain ⟨q, ⟨u, c, d⟩, z⟩ := b i hi
  obtain ⟨ao, cp, rfl, z2⟩ := own_sp rfl d
  exact ⟨q, ⟨ao, _, cp, c, z2⟩, z⟩
theorem CoOwn.mono {w : World} {B C n : Nat} {v : Value} {ls : List (List Sp)} (h : CoOwn w B v n ls) (hb : C ≤ B) : CoOwn w C v n ls := by
  obtain ⟨xs, a, b⟩ := h.row
  exact ⟨h.len, xs, own_base a hb, fun i hi => by obtain ⟨u, c, d⟩ := b i hi; exact ⟨u, c, own_base d hb⟩⟩
theorem OdOwn.mono {w : World} {B C n : Nat} {v : Value} {os : List Gr} (h : OdOwn w B v n os) (hb : C ≤ B) : OdOwn w C v n os := by
  obtain ⟨xs, a, b⟩ := h.row
  exact ⟨h.len, xs, own_base a hb, fun i hi => by obtain ⟨q, ⟨u, c, d⟩, z⟩ := b i hi; exact ⟨q, ⟨u, c, own_base d hb⟩, z⟩⟩
theorem grown_cell (w : World) (p : Addr) (u : Value) : w.grownBy (w.setCell p u) (some p.block) := ⟨rfl, rfl, rfl, by simp [World.setCell], fun q hq hne => Below.heap_setCell _ _ _ _ (by intro e; exact hne (by rw [e]))⟩
/-- A block of four cells, written. -/
theorem put_four {w : World} {b : Nat} {a0 a1 a2 a3 : Value} {t : TypeId} (h : w.heap[b]? = some (.cells #[a0, a1, a2, a3] t (0, 0))) (x0 x1 x2 x3 : Value) : ((((w.setCell ⟨b, 0, none⟩ x0).setCell ⟨b, 1, none⟩ x1).setCell ⟨b, 2, none⟩ x2).setCell ⟨b, 3, none⟩ x3).heap[b]? = some (.cells #[x0, x1, x2, x3] t (0, 0)) := by
  rw [set_block (set_block (set_block (set_block h 0 x0) 1 x1) 2 x2) 3 x3]; rfl
theorem grown_four (w : World) (b : Nat) (x0 x1 x2 x3 : Value) : w.grownBy ((((w.setCell ⟨b, 0, none⟩ x0).setCell ⟨b, 1, none⟩ x1).setCell ⟨b, 2, none⟩ x2).setCell ⟨b, 3, none⟩ x3) (some b) := by
  refine ⟨rfl, rfl, rfl, by simp [World.setCell], fun q hq hne => ?_⟩
  have hn : q ≠ b := fun e => hne (by rw [e])
  rw [Below.heap_setCell _ _ _ _ hn, Below.heap_setCell _ _ _ _ hn, Below.heap_setCell _ _ _ _ hn, Below.heap_setCell _ _ _ _ hn]
theorem cell_block {w : World} {b : Nat} {c : Array Value} {t : TypeId} (h : w.heap[b]? = some (.cells c t (0, 0))) (k : Nat) : w.cell? ⟨b, k, none⟩ = c[k]? := by
  unfold World.cell?; rw [h]; rfl
/-- A copy under way: the form's box, the result's cell. -/
structure Cp (F : Fv) (w0 w : World) (b ro B : Nat) (vc vo : Value) : Prop where
  f : F.At w0
  bw : Below w0.heap.size w0 w
  lo : w0.heap.size ≤ b
  lo2 : w0.heap.size ≤ ro
  hi : b < B
  hi2 : ro < B
  ne : b ≠ ro
  sz : B ≤ w.heap.size
  blk : w.heap[b]? = some (.cells #[.int .i64 F.P, .int .i64 F.N, vc, vo] 29 (0, 0))
  res : w.heap[ro]? = some (.cells #[.int .i64 0, .int .i64 0, .slice none 0 0, .slice none 0 0] 29 (0, 0))
theorem Cp.grown {F : Fv} {w0 w w' : World} {b ro B : Nat} {vc vo : Value} {row : Option Nat} (h : Cp F w0 w b ro B vc vo) (hg : w.grownBy w' row) (hr : ∀ q, row = some q → B ≤ q) : Cp F w0 w' b ro B vc vo :=
  ⟨h.f, h.bw.grown hg (Nat.le_trans (Nat.le_trans h.lo (Nat.le_of_lt h.hi)) h.sz) (fun k hk => Nat.le_trans (Nat.le_trans h.lo (Nat.le_of_lt h.hi)) (hr k hk)), h.lo, h.lo2, h.hi, h.hi2, h.ne, Nat.le_trans h.sz hg.size,
   (hg.block b (Nat.lt_of_lt_of_le h.hi h.sz) (fun e => by have := hr b e.symm; have := h.hi; omega)).trans h.blk,
   (hg.block ro (Nat.lt_of_lt_of_le h.hi2 h.sz) (fun e => by have := hr ro e.symm; have := h.hi2; omega)).trans h.res⟩
theorem Cp.keep {F : Fv} {w0 w w' : World} {b ro B : Nat} {vc vo : Value} (h : Cp F w0 w b ro B vc vo) (k : Below w.heap.size w w') : Cp F w0 w' b ro B vc vo := h.grown (grown_of_below k) (fun q e => by cases e)
theorem Cp.cell {F : Fv} {w0 w : World} {b ro B : Nat} {vc vo : Value} (h : Cp F w0 w b ro B vc vo) (k : Nat) : w.cell? ⟨b, k, none⟩ = (#[.int .i64 F.P, .int .i64 F.N, vc, vo] : Array Value)[k]? := by
  unfold World.cell?; rw [h.blk]; rfl
theorem Cp.free {F : Fv} {w0 w : World} {b ro B : Nat} {vc vo : Value} (h : Cp F w0 w b ro B vc vo) (k : Nat) : w.frozen? ⟨b, k, none⟩ = false := by
  unfold World.frozen?; rw [h.blk]; simp
theorem Cp.resc {F : Fv} {w0 w : World} {b ro B : Nat} {vc vo : Value} (h : Cp F w0 w b ro B vc vo) (k : Nat) : w.cell? ⟨ro, k, none⟩ = (#[.int .i64 0, .int .i64 0, .slice none 0 0, .slice none 0 0] : Array Value)[k]? := by
  unfold World.cell?; rw [h.res]; rfl
theorem Cp.rfree {F : Fv} {w0 w : World} {b ro B : Nat} {vc vo : Value} (h : Cp F w0 w b ro B vc vo) (k : Nat) : w.frozen? ⟨ro, k, none⟩ = false := by
  unfold World.frozen?; rw [h.res]; simp
theorem Cp.put2 {F : Fv} {w0 w : World} {b ro B : Nat} {vc vo : Value} (h : Cp F w0 w b ro B vc vo) (u : Value) : Cp F w0 (w.setCell ⟨b, 2, none⟩ u) b ro B u vo := by
  have hg := grown_cell w ⟨b, 2, none⟩ u
  refine ⟨h.f, h.bw.setCell (p := ⟨b, 2, none⟩) h.lo u, h.lo, h.lo2, h.hi, h.hi2, h.ne, Nat.le_trans h.sz hg.size, ?_, (hg.block ro (Nat.lt_of_lt_of_le h.hi2 h.sz) (fun e => by cases e; exact h.ne rfl)).trans h.res⟩
  rw [set_block h.blk]; rfl
theorem Cp.put3 {F : Fv} {w0 w : World} {b ro B : Nat} {vc vo : Value} (h : Cp F w0 w b ro B vc vo) (u : Value) : Cp F w0 (w.setCell ⟨b, 3, none⟩ u) b ro B vc u := by
  have hg := grown_cell w ⟨b, 3, none⟩ u
  refine ⟨h.f, h.bw.setCell (p := ⟨b, 3, none⟩) h.lo u, h.lo, h.lo2, h.hi, h.hi2, h.ne, Nat.le_trans h.sz hg.size, ?_, (hg.block ro (Nat.lt_of_lt_of_le h.hi2 h.sz) (fun e => by cases e; exact h.ne rfl)).trans h.res⟩
  rw [set_block h.blk]; rfl
/-- The sets up to i are copied. -/
structure CoHalf (w0 w : World) (B : Nat) (v : Value) (n : Nat) (ls : List (List Sp)) (i : Nat) : Prop where
  len : ls.length = n
  row : ∃ xs, w.ownsRow B 38 1 v n xs ∧ (∀ j (h : j < ls.length), j < i → ∃ u, xs[j]? = some u ∧ w.ownsRow B 42 2 u ls[j].length (spCells ls[j])) ∧ ∀ j (h : j < ls.length), i ≤ j → ∃ o k d, xs[j]? = some (.slice o k d) ∧ SpAt w0 o k d ls[j]
theorem CoHalf.grown {w0 w w' : World} {B n i : Nat} {v : Value} {ls : List (List Sp)} {row : Option Nat} (h : CoHalf w0 w B v n ls i) (hg : w.grownBy w' row) (h1 : Off w B 38 row) (h2 : Off w B 42 row) : CoHalf w0 w' B v n ls i := by
  obtain ⟨xs, a, b, c⟩ := h.row
  exact ⟨h.len, xs, own_off a hg h1, fun i hi q => by obtain ⟨u, c, d⟩ := b i hi q; exact ⟨u, c, own_off d hg h2⟩, c⟩
theorem CoHalf.keep {w0 w w' : World} {B n i : Nat} {v : Value} {ls : List (List Sp)} (h : CoHalf w0 w B v n ls i) (k : Below w.heap.size w w') : CoHalf w0 w' B v n ls i := h.grown (grown_of_below k) (fun q e => by cases e) (fun q e => by cases e)
theorem CoHalf.done {w0 w : World} {B n : Nat} {v : Value} {ls : List (List Sp)} (h : CoHalf w0 w B v n ls n) : CoOwn w B v n ls := by
  obtain ⟨xs, a, b, _⟩ := h.row
  exact ⟨h.len, xs, a, fun i hi => b i hi (by rw [← h.len]; exact hi)⟩
/-- The next set is copied. -/
theorem CoHalf.step {w0 w : World} {B n i g c : Nat} {ls : List (List Sp)} (h : CoHalf w0 w B (.slice (some ⟨g, 0, none⟩) n c) n ls i) (hi : i < n) {u : Value} {B2 : Nat} (hB : B ≤ B2) (hu : w.ownsRow B2 42 2 u (ls[i]'(by rw [h.len]; exact hi)).length (spCells (ls[i]'(by rw [h.len]; exact hi)))) :
    CoHalf w0 (w.setCell ⟨g, i, none⟩ u) B (.slice (some ⟨g, 0, none⟩) n c) n ls (i + 1) := by
  obtain ⟨xs, a, b, d⟩ := h.row
  have hs := a.stored i u
  obtain ⟨cur, ht⟩ := own_typed a (g := g) rfl
  have off43 : ∀ B', Off w B' 42 (some g) := fun B' q e => .inr ⟨cur, 38, by cases e; exact ht, by decide⟩
  have hl := a.1
  have hil : i < xs.length := by rw [hl]; omega
  refine ⟨h.len, _, hs.1, fun j hj q => ?_, fun j hj q => ?_⟩
  · by_cases e : j = i
    · subst e
      exact ⟨u, by simp [hil], own_base (own_off hu hs.2 (off43 _)) hB⟩
    · obtain ⟨u', c1, c2⟩ := b j hj (by omega)
      exact ⟨u', by rw [List.getElem?_set, if_neg (by omega)]; exact c1, own_off c2 hs.2 (off43 _)⟩
  · obtain ⟨o, k, dd, c1, c2⟩ := d j hj (by omega)
    exact ⟨o, k, dd, by rw [List.getElem?_set, if_neg (by omega)]; exact c1, c2⟩
/-- The exceptions up to i are copied. -/
structure OdHalf (w0 w : World) (B : Nat) (v : Value) (n : Nat) (os : List Gr) (i : Nat) : Prop where
  len : os.length = n
  row : ∃ xs, w.ownsRow B 75 2 v n xs ∧ (∀ j (h : j < os.length), xs[j * 2]? = some (.int .i64 os[j].1) ∧ -9223372036854775808 ≤ os[j].1 ∧ os[j].1 ≤ 9223372036854775807) ∧ (∀ j (h : j < os.length), j < i → ∃ u, xs[j * 2 + 1]? = some u ∧ w.ownsRow B 42 2 u os[j].2.length (spCells os[j].2)) ∧ ∀ j (h : j < os.length), i ≤ j → ∃ o k d, xs[j * 2 + 1]? = some (.slice o k d) ∧ SpAt w0 o k d os[j].2
theorem OdHalf.grown {w0 w w' : World} {B n i : Nat} {v : Value} {os : List Gr} {row : Option Nat} (h : OdHalf w0 w B v n os i) (hg : w.grownBy w' row) (h1 : Off w B 75 row) (h2 : Off w B 42 row) : OdHalf w0 w' B v n os i := by
  obtain ⟨xs, a, z, b, c⟩ := h.row
  exact ⟨h.len, xs, own_off a hg h1, z, fun i hi q => by obtain ⟨u, c, d⟩ := b i hi q; exact ⟨u, c, own_off d hg h2⟩, c⟩
theorem OdHalf.keep {w0 w w' : World} {B n i : Nat} {v : Value} {os : List Gr} (h : OdHalf w0 w B v n os i) (k : Below w.heap.size w w') : OdHalf w0 w' B v n os i := h.grown (grown_of_below k) (fun q e => by cases e) (fun q e => by cases e)
theorem OdHalf.done {w0 w : World} {B n : Nat} {v : Value} {os : List Gr} (h : OdHalf w0 w B v n os n) : OdOwn w B v n os := by
  obtain ⟨xs, a, z, b, _⟩ := h.row
  exact ⟨h.len, xs, a, fun i hi => ⟨(z i hi).1, b i hi (by rw [← h.len]; exact hi), (z i hi).2⟩⟩
theorem od_start {w0 w : World} {B n : Nat} {v : Value} {vs : List Value} {os : List Gr} (h : w.ownsRow B 75 2 v n vs) (hl : os.length = n) (hv : VsOd w0 vs os) : OdHalf w0 w B v n os 0 :=
  ⟨hl, vs, h, fun j hj => ⟨(hv.at_ j hj).1, (hv.at_ j hj).2.2⟩, fun j hj q => absurd q (Nat.not_lt_zero _), fun j hj _ => (hv.at_ j hj).2.1⟩
theorem OdHalf.step {w0 w : World} {B n i g c : Nat} {os : List Gr} (h : OdHalf w0 w B (.slice (some ⟨g, 0, none⟩) n c) n os i) (hi : i < n) {u : Value} {B2 : Nat} (hB : B ≤ B2) (hu : w.ownsRow B2 42 2 u (os[i]'(by rw [h.len]; exact hi)).2.length (spCells (os[i]'(by rw [h.len]; exact hi)).2)) :
    OdHalf w0 (w.setCell ⟨g, i * 2 + 1, none⟩ u) B (.slice (some ⟨g, 0, none⟩) n c) n os (i + 1) := by
  obtain ⟨xs, a, z, b, d⟩ := h.row
  have hs := a.stored (i * 2 + 1) u
  obtain ⟨cur, ht⟩ := own_typed a (g := g) rfl
  have off43 : ∀ B', Off w B' 42 (some g) := fun B' q e => .inr ⟨cur, 75, by cases e; exact ht, by decide⟩
  have hl := a.1
  have hil : i * 2 + 1 < xs.length := by rw [hl]; omega
  refine ⟨h.len, _, hs.1, fun j hj => ⟨by rw [List.getElem?_set, if_neg (by omega)]; exact (z j hj).1, (z j hj).2⟩, fun j hj q => ?_, fun j hj q => ?_⟩
  · by_cases e : j = i
    · subst e
      exact ⟨u, by simp [hil], own_base (own_off hu hs.2 (off43 _)) hB⟩
    · obtain ⟨u', c1, c2⟩ := b j hj (by omega)
      exact ⟨u', by rw [List.getElem?_set, if_neg (by omega)]; exact c1, own_off c2 hs.2 (off43 _)⟩
  · obtain ⟨o, k, dd, c1, c2⟩ := d j hj (by omega)
    exact ⟨o, k, dd, by rw [List.getElem?_set, if_neg (by omega)]; exact c1, c2⟩
end Go.Proofs.YtacpcokmgahjaaaDoor
