/- Q4, Q5 in one. -/
import Derived.Test.YtimjendkpjojoaaGreatDoorKm
import Derived.Test.YtimjendkpjojoaaGreatDoorKal
import Derived.Test.YtimjendkpjojoaaGreatDoorKh
import Derived.Laws.RangeString
import Derived.Test.YtimjendkpjojoaaGreatDoorKi
namespace Go.Proofs.YtimjendkpjojoaaGreatDoor
set_option linter.unusedVariables false
set_option linter.unusedSimpArgs false
open Go.ChangeShapes Go.WideShapes Go.ChangeAt Go.RowKit

/-- The cells of a command. -/
def cmC (cm : Lx.Cm) (vn vm : Value) (z : Hv) : Array Value := #[strV cm.word, vn, vm, .int .i64 cm.rg.low, .int .i64 cm.rg.high, .bool cm.rg.hl, .bool cm.rg.hh, .int .u8 z.p.op, .string z.p.nm, .slice z.an z.nn z.nc, .slice z.aa z.p.k z.ac]
def zerC : Array Value := #[.string ⟨#[]⟩, .slice none 0 0, .slice none 0 0, .int .i64 0, .int .i64 0, .bool false, .bool false, .int .u8 0, .string ⟨#[]⟩, .slice none 0 0, .slice none 0 0]
/-- What Command holds on its way. -/
structure CmI (w W : World) (b rb cb ib : Nat) (ao : Option Addr) (n c : Nat) (l : List Lx.Tk) (st : Lx.St) (sh : ByteArray) (pos : Nat) (cm : Lx.Cm) (vn vm : Value) (z : Hv) : Prop where
  rd : Rd w W rb ao n c l st
  lt : w.heap.size = b ∧ rb = b + 1 ∧ rb < cb ∧ cb < ib
  res : W.heap[b]? = some (.cells zerC 42 (0, 0))
  box : W.heap[cb]? = some (.cells (cmC cm vn vm z) 42 (0, 0))
  it : W.heap[ib]? = some (.stringIter sh pos)
  nr : W.ownsRow (ib + 1) 9 1 vn cm.names.length (cm.names.map strV)
  mr : W.ownsRow (ib + 1) 2 1 vm cm.nums.length (cm.nums.map (Value.int .i64))
  mb : ∀ y ∈ cm.nums, -9223372036854775808 ≤ y ∧ y ≤ 9223372036854775807
  few : cm.names.length ≤ pos ∧ cm.nums.length ≤ pos
  pi : Lx.PI st ∧ (st.parts = 0 ∨ pos = sh.size)
  ex : ExAt (only (fun q => decide (ib + 1 ≤ q) && (decide (vn.ownBlock ≠ some q) && decide (vm.ownBlock ≠ some q))) W) 41 (hV z) (tour cm.ex)
section
variable {w W W' : World} {b rb cb ib : Nat} {ao : Option Addr} {n c : Nat} {l : List Lx.Tk} {st st' : Lx.St} {sh : ByteArray} {pos : Nat} {cm : Lx.Cm} {vn vm : Value} {z : Hv}
theorem CmI.step (h : CmI w W b rb cb ib ao n c l st sh pos cm vn vm z) (r : Rd w W' rb ao n c l st') (g : W.grownBy W' (some rb)) (p : Lx.PI st' ∧ (st'.parts = 0 ∨ pos = sh.size)) : CmI w W' b rb cb ib ao n c l st' sh pos cm vn vm z := by
  have hl := h.lt
  refine ⟨r, h.lt, blk_stay h.res g (by omega), blk_stay h.box g (by omega), (g.block ib (Array.getElem?_eq_some_iff.1 h.it).1 (fun e => by have := Option.some.inj e; omega)).trans h.it, h.nr.kept g (ne_row h.nr (by omega)), h.mr.kept g (ne_row h.mr (by omega)), h.mb, h.few, p, h.ex.sub (only_sub (fun q e lt => ⟨e, ?_⟩))⟩
  simp only [Bool.and_eq_true, decide_eq_true_eq] at e
  exact g.block q lt (fun e' => by have := Option.some.inj e'; omega)
theorem CmI.keep (h : CmI w W b rb cb ib ao n c l st sh pos cm vn vm z) (k : Below W.heap.size W W') : CmI w W' b rb cb ib ao n c l st sh pos cm vn vm z := h.step (h.rd.keep k) (grown_of_below k _) h.pi
theorem CmI.sz (h : CmI w W b rb cb ib ao n c l st sh pos cm vn vm z) : ib + 1 ≤ W.heap.size ∧ cb < W.heap.size := ⟨(Array.getElem?_eq_some_iff.1 h.it).1, (Array.getElem?_eq_some_iff.1 h.box).1⟩
/-- The next letter. -/
theorem CmI.turn (h : CmI w W b rb cb ib ao n c l st sh pos cm vn vm z) (hp : pos < sh.size) (hpp : st.parts = 0) : CmI w (nx W ib sh (pos + 1)) b rb cb ib ao n c l st sh (pos + 1) cm vn vm z := by
  have hl := h.lt
  have g := nx_grown W ib sh (pos + 1)
  refine ⟨h.rd.grown g (fun q e => by cases e; omega), h.lt, blk_stay h.res g (by omega), blk_stay h.box g (by omega), nx_on h.it _ _, h.nr.kept g (ne_row h.nr (by omega)), h.mr.kept g (ne_row h.mr (by omega)), h.mb, by have := h.few; omega, ⟨h.pi.1, .inl hpp⟩, h.ex.sub (only_sub (fun q e lt => ⟨e, ?_⟩))⟩
  simp only [Bool.and_eq_true, decide_eq_true_eq] at e
  exact g.block q lt (fun e' => by have := Option.some.inj e'; omega)
/-- The command's box behind an append. -/
theorem CmI.box4 {row : Option Nat} {ob : Obj} (h : CmI w W b rb cb ib ao n c l st sh pos cm vn vm z) (g : (W.alloc ob).grownBy W' row) (hr : ∀ q, row = some q → ib + 1 ≤ q) : W'.heap[cb]? = some (.cells (cmC cm vn vm z) 42 (0, 0)) := by
  have hs := h.sz
  have hl := h.lt
  exact (g.block cb (by simp; omega) (fun e => by have := hr _ e.symm; omega)).trans ((al_old W ob (by omega)).trans h.box)
/-- A name more. -/
theorem CmI.name {w4 : World} {v' : Value} {x : List UInt8} (h : CmI w W b rb cb ib ao n c l st sh pos cm vn vm z) (own : w4.ownsRow (ib + 1) 9 1 v' (cm.names ++ [x]).length ((cm.names ++ [x]).map strV)) (g : W.grownBy w4 vn.ownBlock) (hv : v'.ownBlock = vn.ownBlock ∨ ∀ q, v'.ownBlock = some q → W.heap.size ≤ q) (hf : cm.names.length + 1 ≤ pos) : CmI w (w4.setCell ⟨cb, 1, none⟩ v') b rb cb ib ao n c l st sh pos ⟨cm.word, cm.names ++ [x], cm.nums, cm.rg, cm.ex⟩ v' vm z := by
  have hl := h.lt
  have gx : w4.grownBy (w4.setCell ⟨cb, 1, none⟩ v') (some cb) := grow_cell _ _ _
  have hrow : ∀ q, vn.ownBlock = some q → ib + 1 ≤ q := fun q e => (h.nr.lt q e).1
  have k0 : ∀ {q : Nat} {o : Obj}, q < ib + 1 → W.heap[q]? = some o → w4.heap[q]? = some o := fun {q o} hq e => (g.block q (Array.getElem?_eq_some_iff.1 e).1 (fun e' => by have := hrow q e'.symm; omega)).trans e
  have R4 : Rd w w4 rb ao n c l st := h.rd.grown g (fun q e => by have := hrow q e; omega)
  refine ⟨R4.grown gx (fun q e => by cases e; omega), h.lt, blk_stay (k0 (by omega) h.res) gx (by omega), ?_, (gx.block ib (Array.getElem?_eq_some_iff.1 (k0 (by omega) h.it)).1 (fun e => by have := Option.some.inj e; omega)).trans (k0 (by omega) h.it), own.kept gx (ne_row own (by omega)), ?_, h.mb, ⟨by simp; omega, h.few.2⟩, h.pi, h.ex.sub (only_sub (fun q e lt => ?_))⟩
  · rw [set_block (k0 (by omega) h.box)]; rfl
  · have ap := own_apart h.mr h.nr (by decide)
    exact (h.mr.kept g ap).kept gx (ne_row h.mr (by omega))
  · simp only [Bool.and_eq_true, decide_eq_true_eq] at e ⊢
    refine ⟨⟨e.1, fun e' => ?_, e.2.2⟩, (gx.block q (Nat.lt_of_lt_of_le lt g.size) (fun e' => by have := Option.some.inj e'; omega)).trans (g.block q lt (fun e' => e.2.1 e'.symm))⟩
    rcases hv with e1 | e1
    · exact e.2.1 (e1 ▸ e')
    · have := e1 q e'; omega
/-- A number more. -/
theorem CmI.num {w4 : World} {v' : Value} {x : Int} (h : CmI w W b rb cb ib ao n c l st sh pos cm vn vm z) (hx : -9223372036854775808 ≤ x ∧ x ≤ 9223372036854775807) (own : w4.ownsRow (ib + 1) 2 1 v' (cm.nums ++ [x]).length ((cm.nums ++ [x]).map (Value.int .i64))) (g : W.grownBy w4 vm.ownBlock) (hv : v'.ownBlock = vm.ownBlock ∨ ∀ q, v'.ownBlock = some q → W.heap.size ≤ q) (hf : cm.nums.length + 1 ≤ pos) : CmI w (w4.setCell ⟨cb, 2, none⟩ v') b rb cb ib ao n c l st sh pos ⟨cm.word, cm.names, cm.nums ++ [x], cm.rg, cm.ex⟩ vn v' z := by
  have hl := h.lt
  have gx : w4.grownBy (w4.setCell ⟨cb, 2, none⟩ v') (some cb) := grow_cell _ _ _
  have hrow : ∀ q, vm.ownBlock = some q → ib + 1 ≤ q := fun q e => (h.mr.lt q e).1
  have k0 : ∀ {q : Nat} {o : Obj}, q < ib + 1 → W.heap[q]? = some o → w4.heap[q]? = some o := fun {q o} hq e => (g.block q (Array.getElem?_eq_some_iff.1 e).1 (fun e' => by have := hrow q e'.symm; omega)).trans e
  have R4 : Rd w w4 rb ao n c l st := h.rd.grown g (fun q e => by have := hrow q e; omega)
  refine ⟨R4.grown gx (fun q e => by cases e; omega), h.lt, blk_stay (k0 (by omega) h.res) gx (by omega), ?_, (gx.block ib (Array.getElem?_eq_some_iff.1 (k0 (by omega) h.it)).1 (fun e => by have := Option.some.inj e; omega)).trans (k0 (by omega) h.it), ?_, own.kept gx (ne_row own (by omega)), fun y hy => ?_, ⟨h.few.1, by simp; omega⟩, h.pi, h.ex.sub (only_sub (fun q e lt => ?_))⟩
  · rw [set_block (k0 (by omega) h.box)]; rfl
  · have ap := own_apart h.nr h.mr (by decide)
    exact (h.nr.kept g ap).kept gx (ne_row h.nr (by omega))
  · rcases List.mem_append.1 hy with e | e
    · exact h.mb y e
    · simp at e; subst e; exact hx
  · simp only [Bool.and_eq_true, decide_eq_true_eq] at e ⊢
    refine ⟨⟨e.1, e.2.1, fun e' => ?_⟩, (gx.block q (Nat.lt_of_lt_of_le lt g.size) (fun e' => by have := Option.some.inj e'; omega)).trans (g.block q lt (fun e' => e.2.2 e'.symm))⟩
    rcases hv with e1 | e1
    · exact e.2.2 (e1 ▸ e')
    · have := e1 q e'; omega
/-- The four cells of a part of the box. -/
def set4 (W : World) (g o : Nat) (y0 y1 y2 y3 : Value) : World := (((W.setCell ⟨g, o, none⟩ y0).setCell ⟨g, o + 1, none⟩ y1).setCell ⟨g, o + 2, none⟩ y2).setCell ⟨g, o + 3, none⟩ y3
theorem set4_grown (W : World) (g o : Nat) (y0 y1 y2 y3 : Value) : W.grownBy (set4 W g o y0 y1 y2 y3) (some g) := grown_trans (grown_trans (grown_trans (grow_cell W ⟨g, o, none⟩ y0) (grow_cell _ ⟨g, o + 1, none⟩ y1)) (grow_cell _ ⟨g, o + 2, none⟩ y2)) (grow_cell _ ⟨g, o + 3, none⟩ y3)
theorem set4_on {W : World} {g : Nat} {cs : Array Value} {t : TypeId} (h : W.heap[g]? = some (.cells cs t (0, 0))) (o : Nat) (y0 y1 y2 y3 : Value) : (set4 W g o y0 y1 y2 y3).heap[g]? = some (.cells ((((cs.setIfInBounds o y0).setIfInBounds (o + 1) y1).setIfInBounds (o + 2) y2).setIfInBounds (o + 3) y3) t (0, 0)) := by
  unfold set4; exact set_block (set_block (set_block (set_block h _ _) _ _) _ _) _ _
theorem CmI.put (h : CmI w W b rb cb ib ao n c l st sh pos cm vn vm z) {o : Nat} {y0 y1 y2 y3 : Value} {cm' : Lx.Cm} {z' : Hv} (e1 : (((((cmC cm vn vm z).setIfInBounds o y0).setIfInBounds (o + 1) y1).setIfInBounds (o + 2) y2).setIfInBounds (o + 3) y3) = cmC cm' vn vm z') (e2 : cm'.names = cm.names) (e3 : cm'.nums = cm.nums) (hx : ExAt (only (fun q => decide (ib + 1 ≤ q) && (decide (vn.ownBlock ≠ some q) && decide (vm.ownBlock ≠ some q))) W) 41 (hV z') (tour cm'.ex)) : CmI w (set4 W cb o y0 y1 y2 y3) b rb cb ib ao n c l st sh pos cm' vn vm z' := by
  have hl := h.lt
  have gx := set4_grown W cb o y0 y1 y2 y3
  refine ⟨h.rd.grown gx (fun q e => by cases e; omega), h.lt, blk_stay h.res gx (by omega), ?_, (gx.block ib (Array.getElem?_eq_some_iff.1 h.it).1 (fun e => by have := Option.some.inj e; omega)).trans h.it, by rw [e2]; exact h.nr.kept gx (ne_row h.nr (by omega)), by rw [e3]; exact h.mr.kept gx (ne_row h.mr (by omega)), by rw [e3]; exact h.mb, by rw [e2, e3]; exact h.few, h.pi, hx.sub (only_sub (fun q e lt => ⟨e, ?_⟩))⟩
  · rw [set4_on h.box, e1]
  · simp only [Bool.and_eq_true, decide_eq_true_eq] at e
    exact gx.block q lt (fun e' => by have := Option.some.inj e'; omega)
theorem CmI.range (h : CmI w W b rb cb ib ao n c l st sh pos cm vn vm z) (r : Lx.Rg) : CmI w (set4 W cb 3 (.int .i64 r.low) (.int .i64 r.high) (.bool r.hl) (.bool r.hh)) b rb cb ib ao n c l st sh pos ⟨cm.word, cm.names, cm.nums, r, cm.ex⟩ vn vm z := h.put rfl rfl rfl h.ex
theorem CmI.expr (h : CmI w W b rb cb ib ao n c l st sh pos cm vn vm z) (z' : Hv) (F : Lx.Ex) {B : Nat} (hB : ib + 1 ≤ B) (hn : ∀ q, vn.ownBlock = some q → q < B) (hm : ∀ q, vm.ownBlock = some q → q < B) (hx : ExAt (only (frB B) W) 41 (hV z') (tour F)) : CmI w (set4 W cb 7 (.int .u8 z'.p.op) (.string z'.p.nm) (.slice z'.an z'.nn z'.nc) (.slice z'.aa z'.p.k z'.ac)) b rb cb ib ao n c l st sh pos ⟨cm.word, cm.names, cm.nums, cm.rg, F⟩ vn vm z' :=
  h.put rfl rfl rfl (hx.sub (only_sub (fun q e lt => ⟨by
    have := le_frB e
    simp only [Bool.and_eq_true, decide_eq_true_eq]
    exact ⟨by omega, fun e' => by have := hn q e'; omega, fun e' => by have := hm q e'; omega⟩, rfl⟩)))
end

namespace Lx
end Lx
theorem info9c : (Tryz.prog.info? 9).map (fun i => (i.zero, i.size, i.bytes)) = some (some (.string ⟨#[]⟩), 1, 16) := by kernel_rfl
/-- A command in memory. -/
structure CmAt (w : World) (cm : Lx.Cm) (vn vm : Value) (z : Hv) : Prop where
  nn : ∃ ao c, vn = .slice ao cm.names.length c ∧ StAt w ao cm.names.length c (cm.names.map (fun x => ⟨x.toArray⟩))
  mm : ∃ ao c, vm = .slice ao cm.nums.length c ∧ NAt w ao cm.nums.length c cm.nums
  ex : ExAt w 41 (hV z) (tour cm.ex)
theorem no_cm (w : World) : CmAt w Lx.noCm (.slice none 0 0) (.slice none 0 0) ⟨⟨0, ⟨#[]⟩, [], 0⟩, none, 0, 0, none, 0⟩ :=
  ⟨⟨none, 0, rfl, ⟨rfl, Nat.le_refl _, Nat.zero_le _, fun _ => rfl, fun h => absurd h (Nat.lt_irrefl _)⟩⟩, ⟨none, 0, rfl, nat_nil w⟩, (ex_leaf' w [] (Nat.zero_le _)).more (by omega)⟩
theorem StAt.sub {w w' : World} {ao : Option Addr} {n c : Nat} {l : List ByteArray} (h : StAt w ao n c l) (k : Sub w w') : StAt w' ao n c l :=
  ⟨h.len, h.le, h.top, h.bare, fun h0 => by
    obtain ⟨b, e, hc⟩ := h.here h0
    exact ⟨b, e, fun i hi => k _ _ (hc i hi)⟩⟩
theorem CmAt.sub {w w' : World} {cm : Lx.Cm} {vn vm : Value} {z : Hv} (h : CmAt w cm vn vm z) (k : Sub w w') : CmAt w' cm vn vm z := by
  obtain ⟨⟨a1, c1, e1, s1⟩, ⟨a2, c2, e2, s2⟩, x⟩ := h
  exact ⟨⟨a1, c1, e1, s1.sub k⟩, ⟨a2, c2, e2, s2.sub k⟩, x.sub k⟩
theorem own_st2 {w : World} {B : Nat} {v : Value} {l : List ByteArray} (h : w.ownsRow B 9 1 v l.length (l.map Value.string)) : ∃ ao c, v = .slice ao l.length c ∧ StAt (only (frB B) w) ao l.length c l := by
  rcases h.2 with ⟨rfl, h0⟩ | ⟨g, cap, cur, rfl, hB, hg, h1, h2, h3, h4⟩
  · have h0 : l = [] := by simpa using h0
    subst h0
    exact ⟨none, 0, rfl, ⟨rfl, Nat.le_refl _, Nat.zero_le _, fun _ => rfl, fun h => absurd h (Nat.lt_irrefl _)⟩⟩
  · refine ⟨some ⟨g, 0, none⟩, cap, rfl, ⟨rfl, h1, by unfold maxLen at h2; omega, (fun e => by cases e), fun h0 => ⟨g, rfl, fun i hi => only_cell.2 ⟨frB_le hB, ?_⟩⟩⟩⟩
    rw [cell_blk hg]
    have e : (l.map Value.string)[i]? = some (.string l[i]) := by simp [hi]
    rw [← h4, List.getElem?_take_of_lt (by omega)] at e
    simpa using e
theorem CmI.out {w W : World} {b rb cb ib : Nat} {ao : Option Addr} {n c : Nat} {l : List Lx.Tk} {st : Lx.St} {sh : ByteArray} {pos : Nat} {cm : Lx.Cm} {vn vm : Value} {z : Hv} (h : CmI w W b rb cb ib ao n c l st sh pos cm vn vm z) {wf : World} (g : W.grownBy wf (some b)) : CmAt (only (frB w.heap.size) wf) cm vn vm z := by
  have hl := h.lt
  have n2 : wf.ownsRow (ib + 1) 9 1 vn cm.names.length (cm.names.map strV) := h.nr.kept g (ne_row h.nr (by omega))
  have m2 : wf.ownsRow (ib + 1) 2 1 vm cm.nums.length (cm.nums.map (Value.int .i64)) := h.mr.kept g (ne_row h.mr (by omega))
  have up : Sub (only (frB (ib + 1)) wf) (only (frB w.heap.size) wf) := only_sub (fun q e _ => ⟨frB_le (by have := le_frB e; omega), rfl⟩)
  refine ⟨?_, ?_, h.ex.sub (only_sub (fun q e lt => ?_))⟩
  · have e : cm.names.map strV = (cm.names.map (fun x => (⟨x.toArray⟩ : ByteArray))).map Value.string := by simp [strV]
    rw [e] at n2
    obtain ⟨ao, c, e1, e2⟩ := own_st2 (l := cm.names.map (fun x => (⟨x.toArray⟩ : ByteArray))) (by simpa using n2)
    simp only [List.length_map] at e1 e2
    exact ⟨ao, c, e1, e2.sub up⟩
  · obtain ⟨ao, c, e1, e2⟩ := own_nat m2 h.mb
    exact ⟨ao, c, e1, e2.sub up⟩
  · simp only [Bool.and_eq_true, decide_eq_true_eq] at e
    exact ⟨frB_le (by omega), g.block q lt (fun e' => by have := Option.some.inj e'; omega)⟩
/-- Eleven cells written. -/
def put11 (W : World) (g : Nat) (y0 y1 y2 y3 y4 y5 y6 y7 y8 y9 y10 : Value) : World := ((((((((((W.setCell ⟨g, 0, none⟩ y0).setCell ⟨g, 1, none⟩ y1).setCell ⟨g, 2, none⟩ y2).setCell ⟨g, 3, none⟩ y3).setCell ⟨g, 4, none⟩ y4).setCell ⟨g, 5, none⟩ y5).setCell ⟨g, 6, none⟩ y6).setCell ⟨g, 7, none⟩ y7).setCell ⟨g, 8, none⟩ y8).setCell ⟨g, 9, none⟩ y9).setCell ⟨g, 10, none⟩ y10
theorem put11_on {W : World} {g : Nat} {t : TypeId} (h : W.heap[g]? = some (.cells zerC t (0, 0))) (y0 y1 y2 y3 y4 y5 y6 y7 y8 y9 y10 : Value) : (put11 W g y0 y1 y2 y3 y4 y5 y6 y7 y8 y9 y10).heap[g]? = some (.cells #[y0, y1, y2, y3, y4, y5, y6, y7, y8, y9, y10] t (0, 0)) := by
  unfold zerC at h
  unfold put11
  have e0 := set_block h 0 y0
  simp only [List.setIfInBounds_toArray, List.set_cons_zero, List.set_cons_succ] at e0
  have e1 := set_block e0 1 y1
  simp only [List.setIfInBounds_toArray, List.set_cons_zero, List.set_cons_succ] at e1
  have e2 := set_block e1 2 y2
  simp only [List.setIfInBounds_toArray, List.set_cons_zero, List.set_cons_succ] at e2
  have e3 := set_block e2 3 y3
  simp only [List.setIfInBounds_toArray, List.set_cons_zero, List.set_cons_succ] at e3
  have e4 := set_block e3 4 y4
  simp only [List.setIfInBounds_toArray, List.set_cons_zero, List.set_cons_succ] at e4
  have e5 := set_block e4 5 y5
  simp only [List.setIfInBounds_toArray, List.set_cons_zero, List.set_cons_succ] at e5
  have e6 := set_block e5 6 y6
  simp only [List.setIfInBounds_toArray, List.set_cons_zero, List.set_cons_succ] at e6
  have e7 := set_block e6 7 y7
  simp only [List.setIfInBounds_toArray, List.set_cons_zero, List.set_cons_succ] at e7
  have e8 := set_block e7 8 y8
  simp only [List.setIfInBounds_toArray, List.set_cons_zero, List.set_cons_succ] at e8
  have e9 := set_block e8 9 y9
  simp only [List.setIfInBounds_toArray, List.set_cons_zero, List.set_cons_succ] at e9
  have e10 := set_block e9 10 y10
  simp only [List.setIfInBounds_toArray, List.set_cons_zero, List.set_cons_succ] at e10
  exact e10
theorem grown_set {W W' : World} {g : Nat} (h : W.grownBy W' (some g)) (k : Nat) (y : Value) : W.grownBy (W'.setCell ⟨g, k, none⟩ y) (some g) := grown_trans h (grow_cell W' ⟨g, k, none⟩ y)
theorem put11_grown (W : World) (g : Nat) (y0 y1 y2 y3 y4 y5 y6 y7 y8 y9 y10 : Value) : W.grownBy (put11 W g y0 y1 y2 y3 y4 y5 y6 y7 y8 y9 y10) (some g) :=
  grown_set (grown_set (grown_set (grown_set (grown_set (grown_set (grown_set (grown_set (grown_set (grown_set (grown_set (World.grownBy.refl W _) 0 y0) 1 y1) 2 y2) 3 y3) 4 y4) 5 y5) 6 y6) 7 y7) 8 y8) 9 y9) 10 y10
end Go.Proofs.YtimjendkpjojoaaGreatDoor
