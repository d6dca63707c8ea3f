/- Q17, M31, M32 in one. -/
import Derived.Test.YtllhcpkpbipjlaaDoorKaw
import Derived.Test.YtllhcpkpbipjlaaDoorKo
import Derived.Deep.AppendLies
import Derived.Deep.RegionLaw
namespace Go.Proofs.YtllhcpkpbipjlaaDoor
set_option linter.unusedVariables false
set_option linter.unusedSimpArgs false
open Go.ChangeShapes Go.WideShapes Go.ChangeAt Go.RowKit

structure CmR (w W : World) (b rb cb : Nat) (ao : Option Addr) (n c : Nat) (l : List Lx.Tk) (st : Lx.St) (pos : Nat) (cm : Lx.Cm) (vn vm : Value) (z : Hv) : Prop where
  rd : Rr w W rb ao n c l st
  lt : w.heap.size = b ∧ rb = b + 1 ∧ rb < cb
  res : W.heap[b]? = some (.cells zerC 39 (0, 0))
  box : W.heap[cb]? = some (.cells (cmC cm vn vm z) 39 (0, 0))
  nr : W.ownsRow (cb + 1) 9 1 vn cm.names.length (cm.names.map strV)
  mr : W.ownsRow (cb + 1) 2 1 vm cm.nums.length (cm.nums.map (Value.int .i64))
  mb : ∀ y ∈ cm.nums, -9223372036854775808 ≤ y ∧ y ≤ 9223372036854775807
  few : cm.names.length ≤ pos ∧ cm.nums.length ≤ pos
  pi : Lx.PI st
  ex : ExAt (only (fun q => decide (cb + 1 ≤ q) && (decide (vn.ownBlock ≠ some q) && decide (vm.ownBlock ≠ some q))) W) 41 (hV z) (tour cm.ex)
section
variable {w W W' : World} {b rb cb : Nat} {ao : Option Addr} {n c : Nat} {l : List Lx.Tk} {st st' : Lx.St} {pos : Nat} {cm : Lx.Cm} {vn vm : Value} {z : Hv}
theorem CmR.step (h : CmR w W b rb cb ao n c l st pos cm vn vm z) (r : Rr w W' rb ao n c l st') (g : W.grownBy W' (some rb)) (p : Lx.PI st') : CmR w W' b rb cb ao n c l st' pos cm vn vm z := by
  have hl := h.lt
  refine ⟨r, h.lt, blk_stay h.res g (by omega), blk_stay h.box g (by omega), h.nr.kept g (ne_row h.nr (by omega)), h.mr.kept g (ne_row h.mr (by omega)), h.mb, h.few, p, h.ex.sub (only_sub (fun q e lt => ⟨e, ?_⟩))⟩
  simp only [Bool.and_eq_true, decide_eq_true_eq] at e
  exact g.block q lt (fun e' => by have := Option.some.inj e'; omega)
theorem CmR.keep (h : CmR w W b rb cb ao n c l st pos cm vn vm z) (k : Below W.heap.size W W') : CmR w W' b rb cb ao n c l st pos cm vn vm z := h.step (h.rd.keep k) (grown_of_below k _) h.pi
theorem CmR.sz (h : CmR w W b rb cb ao n c l st pos cm vn vm z) : cb + 1 ≤ W.heap.size ∧ cb < W.heap.size := ⟨(Array.getElem?_eq_some_iff.1 h.box).1, (Array.getElem?_eq_some_iff.1 h.box).1⟩
/-- The next letter. -/
theorem CmR.turn (h : CmR w W b rb cb ao n c l st pos cm vn vm z) : CmR w W b rb cb ao n c l st (pos + 1) cm vn vm z :=
  ⟨h.rd, h.lt, h.res, h.box, h.nr, h.mr, h.mb, by have := h.few; omega, h.pi, h.ex⟩
/-- The command's box behind an append. -/
theorem CmR.box4 {row : Option Nat} {ob : Obj} (h : CmR w W b rb cb ao n c l st pos cm vn vm z) (g : (W.alloc ob).grownBy W' row) (hr : ∀ q, row = some q → cb + 1 ≤ q) : W'.heap[cb]? = some (.cells (cmC cm vn vm z) 39 (0, 0)) := by
  have hs := h.sz
  have hl := h.lt
  exact (g.block cb (by simp; omega) (fun e => by have := hr _ e.symm; omega)).trans ((al_old W ob (by omega)).trans h.box)
/-- A name more. -/
theorem CmR.name {w4 : World} {v' : Value} {x : List UInt8} (h : CmR w W b rb cb ao n c l st pos cm vn vm z) (own : w4.ownsRow (cb + 1) 9 1 v' (cm.names ++ [x]).length ((cm.names ++ [x]).map strV)) (g : W.grownBy w4 vn.ownBlock) (hv : v'.ownBlock = vn.ownBlock ∨ ∀ q, v'.ownBlock = some q → W.heap.size ≤ q) (hf : cm.names.length + 1 ≤ pos) : CmR w (w4.setCell ⟨cb, 1, none⟩ v') b rb cb ao n c l st pos ⟨cm.word, cm.names ++ [x], cm.nums, cm.rg, cm.ex⟩ v' vm z := by
  have hl := h.lt
  have gx : w4.grownBy (w4.setCell ⟨cb, 1, none⟩ v') (some cb) := grow_cell _ _ _
  have hrow : ∀ q, vn.ownBlock = some q → cb + 1 ≤ q := fun q e => (h.nr.lt q e).1
  have k0 : ∀ {q : Nat} {o : Obj}, q < cb + 1 → W.heap[q]? = some o → w4.heap[q]? = some o := fun {q o} hq e => (g.block q (Array.getElem?_eq_some_iff.1 e).1 (fun e' => by have := hrow q e'.symm; omega)).trans e
  have R4 : Rr w w4 rb ao n c l st := h.rd.grown g (fun q e => by have := hrow q e; omega)
  refine ⟨R4.grown gx (fun q e => by cases e; omega), h.lt, blk_stay (k0 (by omega) h.res) gx (by omega), ?_, own.kept gx (ne_row own (by omega)), ?_, h.mb, ⟨by simp; omega, h.few.2⟩, h.pi, h.ex.sub (only_sub (fun q e lt => ?_))⟩
  · rw [set_block (k0 (by omega) h.box)]; rfl
  · have ap := own_apart h.mr h.nr (by decide)
    exact (h.mr.kept g ap).kept gx (ne_row h.mr (by omega))
  · simp only [Bool.and_eq_true, decide_eq_true_eq] at e ⊢
    refine ⟨⟨e.1, fun e' => ?_, e.2.2⟩, (gx.block q (Nat.lt_of_lt_of_le lt g.size) (fun e' => by have := Option.some.inj e'; omega)).trans (g.block q lt (fun e' => e.2.1 e'.symm))⟩
    rcases hv with e1 | e1
    · exact e.2.1 (e1 ▸ e')
    · have := e1 q e'; omega
/-- A number more. -/
theorem CmR.num {w4 : World} {v' : Value} {x : Int} (h : CmR w W b rb cb ao n c l st pos cm vn vm z) (hx : -9223372036854775808 ≤ x ∧ x ≤ 9223372036854775807) (own : w4.ownsRow (cb + 1) 2 1 v' (cm.nums ++ [x]).length ((cm.nums ++ [x]).map (Value.int .i64))) (g : W.grownBy w4 vm.ownBlock) (hv : v'.ownBlock = vm.ownBlock ∨ ∀ q, v'.ownBlock = some q → W.heap.size ≤ q) (hf : cm.nums.length + 1 ≤ pos) : CmR w (w4.setCell ⟨cb, 2, none⟩ v') b rb cb ao n c l st pos ⟨cm.word, cm.names, cm.nums ++ [x], cm.rg, cm.ex⟩ vn v' z := by
  have hl := h.lt
  have gx : w4.grownBy (w4.setCell ⟨cb, 2, none⟩ v') (some cb) := grow_cell _ _ _
  have hrow : ∀ q, vm.ownBlock = some q → cb + 1 ≤ q := fun q e => (h.mr.lt q e).1
  have k0 : ∀ {q : Nat} {o : Obj}, q < cb + 1 → W.heap[q]? = some o → w4.heap[q]? = some o := fun {q o} hq e => (g.block q (Array.getElem?_eq_some_iff.1 e).1 (fun e' => by have := hrow q e'.symm; omega)).trans e
  have R4 : Rr w w4 rb ao n c l st := h.rd.grown g (fun q e => by have := hrow q e; omega)
  refine ⟨R4.grown gx (fun q e => by cases e; omega), h.lt, blk_stay (k0 (by omega) h.res) gx (by omega), ?_, ?_, own.kept gx (ne_row own (by omega)), fun y hy => ?_, ⟨h.few.1, by simp; omega⟩, h.pi, h.ex.sub (only_sub (fun q e lt => ?_))⟩
  · rw [set_block (k0 (by omega) h.box)]; rfl
  · have ap := own_apart h.nr h.mr (by decide)
    exact (h.nr.kept g ap).kept gx (ne_row h.nr (by omega))
  · rcases List.mem_append.1 hy with e | e
    · exact h.mb y e
    · simp at e; subst e; exact hx
  · simp only [Bool.and_eq_true, decide_eq_true_eq] at e ⊢
    refine ⟨⟨e.1, e.2.1, fun e' => ?_⟩, (gx.block q (Nat.lt_of_lt_of_le lt g.size) (fun e' => by have := Option.some.inj e'; omega)).trans (g.block q lt (fun e' => e.2.2 e'.symm))⟩
    rcases hv with e1 | e1
    · exact e.2.2 (e1 ▸ e')
    · have := e1 q e'; omega
theorem CmR.put (h : CmR w W b rb cb ao n c l st pos cm vn vm z) {o : Nat} {y0 y1 y2 y3 : Value} {cm' : Lx.Cm} {z' : Hv} (e1 : (((((cmC cm vn vm z).setIfInBounds o y0).setIfInBounds (o + 1) y1).setIfInBounds (o + 2) y2).setIfInBounds (o + 3) y3) = cmC cm' vn vm z') (e2 : cm'.names = cm.names) (e3 : cm'.nums = cm.nums) (hx : ExAt (only (fun q => decide (cb + 1 ≤ q) && (decide (vn.ownBlock ≠ some q) && decide (vm.ownBlock ≠ some q))) W) 41 (hV z') (tour cm'.ex)) : CmR w (set4 W cb o y0 y1 y2 y3) b rb cb ao n c l st pos cm' vn vm z' := by
  have hl := h.lt
  have gx := set4_grown W cb o y0 y1 y2 y3
  refine ⟨h.rd.grown gx (fun q e => by cases e; omega), h.lt, blk_stay h.res gx (by omega), ?_, by rw [e2]; exact h.nr.kept gx (ne_row h.nr (by omega)), by rw [e3]; exact h.mr.kept gx (ne_row h.mr (by omega)), by rw [e3]; exact h.mb, by rw [e2, e3]; exact h.few, h.pi, hx.sub (only_sub (fun q e lt => ⟨e, ?_⟩))⟩
  · rw [set4_on h.box, e1]
  · simp only [Bool.and_eq_true, decide_eq_true_eq] at e
    exact gx.block q lt (fun e' => by have := Option.some.inj e'; omega)
theorem CmR.range (h : CmR w W b rb cb ao n c l st pos cm vn vm z) (r : Lx.Rg) : CmR w (set4 W cb 3 (.int .i64 r.low) (.int .i64 r.high) (.bool r.hl) (.bool r.hh)) b rb cb ao n c l st pos ⟨cm.word, cm.names, cm.nums, r, cm.ex⟩ vn vm z := h.put rfl rfl rfl h.ex
theorem CmR.expr (h : CmR w W b rb cb ao n c l st pos cm vn vm z) (z' : Hv) (F : Lx.Ex) {B : Nat} (hB : cb + 1 ≤ B) (hn : ∀ q, vn.ownBlock = some q → q < B) (hm : ∀ q, vm.ownBlock = some q → q < B) (hx : ExAt (only (frB B) W) 41 (hV z') (tour F)) : CmR w (set4 W cb 7 (.int .u8 z'.p.op) (.string z'.p.nm) (.slice z'.an z'.nn z'.nc) (.slice z'.aa z'.p.k z'.ac)) b rb cb ao n c l st pos ⟨cm.word, cm.names, cm.nums, cm.rg, F⟩ vn vm z' :=
  h.put rfl rfl rfl (hx.sub (only_sub (fun q e lt => ⟨by
    have := le_frB e
    simp only [Bool.and_eq_true, decide_eq_true_eq]
    exact ⟨by omega, fun e' => by have := hn q e'; omega, fun e' => by have := hm q e'; omega⟩, rfl⟩)))
theorem CmR.out (h : CmR w W b rb cb ao n c l st pos cm vn vm z) {wf : World} (g : W.grownBy wf (some b)) : CmAt (only (frB w.heap.size) wf) cm vn vm z := by
  have hl := h.lt
  have n2 : wf.ownsRow (cb + 1) 9 1 vn cm.names.length (cm.names.map strV) := h.nr.kept g (ne_row h.nr (by omega))
  have m2 : wf.ownsRow (cb + 1) 2 1 vm cm.nums.length (cm.nums.map (Value.int .i64)) := h.mr.kept g (ne_row h.mr (by omega))
  have up : Sub (only (frB (cb + 1)) wf) (only (frB w.heap.size) wf) := only_sub (fun q e _ => ⟨frB_le (by have := le_frB e; omega), rfl⟩)
  refine ⟨?_, ?_, h.ex.sub (only_sub (fun q e lt => ?_))⟩
  · have e : cm.names.map strV = (cm.names.map (fun x => (⟨x.toArray⟩ : ByteArray))).map Value.string := by simp [strV]
    rw [e] at n2
    obtain ⟨ao, c, e1, e2⟩ := own_st2 (l := cm.names.map (fun x => (⟨x.toArray⟩ : ByteArray))) (by simpa using n2)
    simp only [List.length_map] at e1 e2
    exact ⟨ao, c, e1, e2.sub up⟩
  · obtain ⟨ao, c, e1, e2⟩ := own_nat m2 h.mb
    exact ⟨ao, c, e1, e2.sub up⟩
  · simp only [Bool.and_eq_true, decide_eq_true_eq] at e
    exact ⟨frB_le (by omega), g.block q lt (fun e' => by have := Option.some.inj e'; omega)⟩
end

/-- What it comes to. -/
theorem CmR.endC {w W : World} {b rb cb : Nat} {ao : Option Addr} {n c : Nat} {l : List Lx.Tk} {st : Lx.St} {pos : Nat} {cm : Lx.Cm} {vn vm : Value} {z : Hv} (h : CmR w W b rb cb ao n c l st pos cm vn vm z) {wf : World} (g : W.grownBy wf (some rb)) : CmAt (only (frB (b + 2)) wf) cm vn vm z := by
  have hl := h.lt
  have n2 : wf.ownsRow (cb + 1) 9 1 vn cm.names.length (cm.names.map strV) := h.nr.kept g (ne_row h.nr (by omega))
  have m2 : wf.ownsRow (cb + 1) 2 1 vm cm.nums.length (cm.nums.map (Value.int .i64)) := h.mr.kept g (ne_row h.mr (by omega))
  have up : Sub (only (frB (cb + 1)) wf) (only (frB (b + 2)) wf) := only_sub (fun q e _ => ⟨frB_le (by have := le_frB e; omega), rfl⟩)
  refine ⟨?_, ?_, h.ex.sub (only_sub (fun q e lt => ?_))⟩
  · have e : cm.names.map strV = (cm.names.map (fun x => (⟨x.toArray⟩ : ByteArray))).map Value.string := by simp [strV]
    rw [e] at n2
    obtain ⟨ao, c, e1, e2⟩ := own_st2 (l := cm.names.map (fun x => (⟨x.toArray⟩ : ByteArray))) (by simpa using n2)
    simp only [List.length_map] at e1 e2
    exact ⟨ao, c, e1, e2.sub up⟩
  · obtain ⟨ao, c, e1, e2⟩ := own_nat m2 h.mb
    exact ⟨ao, c, e1, e2.sub up⟩
  · simp only [Bool.and_eq_true, decide_eq_true_eq] at e
    exact ⟨frB_le (by omega), g.block q lt (fun e' => by have := Option.some.inj e'; omega)⟩
set_option maxRecDepth 20000 in
set_option maxHeartbeats 4000000 in
theorem rcmd_none (w : World) (ao : Option Addr) (n c : Nat) (l : List Lx.Tk) (hA : TkAt w ao n c l) (hB : Lx.TkB l) (h0 : n = 0) :
    Calls Tryd.prog 16 #[.slice ao n c] w fun e w' => ∃ (vn vm : Value) (z : Hv), e = .returned (.tuple #[.agg (cmC (Lx.cmR l).1 vn vm z), .int .i64 (Lx.cmR l).2.1, .int .i64 (Lx.cmR l).2.2]) ∧ Hid (Below w.heap.size w w') ∧ Hid (CmAt (only (frB w.heap.size) w') (Lx.cmR l).1 vn vm z) := by
  obtain ⟨b, hb⟩ : ∃ z, w.heap.size = z := ⟨_, rfl⟩
  obtain ⟨w1, hw1⟩ : ∃ z, w.alloc (.cells zerC 39) = z := ⟨_, rfl⟩
  have HK : Hid (Below w.heap.size w w1) := Lib.hid (by rw [← hw1]; exact (Below.refl _ w).alloc (Nat.le_refl _) _)
  have HRB : Hid (w1.heap[b]? = some (.cells zerC 39 (0, 0))) := Lib.hid (by rw [← hw1, ← hb, al_new])
  have HLO : Hid (w.heap.size = b) := Lib.hid hb
  have HSZ1 : Hid (w1.heap.size = b + 1) := Lib.hid (by rw [← hw1, ← hb]; simp)
  have HTB := Lib.hid hB
  have HTK := Lib.hid hA
  have HW1 := Lib.hid hw1
  have nl := tk_nlt hA
  have n1 : (n : Int) ≤ 9223372036854775807 := by omega
  have n0 : (0 : Int) ≤ (n : Int) := by omega
  have DRF : Hid (∀ (W : World), W.heap[b]? = some (.cells zerC 39 (0, 0)) → W.cell? ⟨b, 0, none⟩ = some (.string ⟨#[]⟩) ∧ W.cell? ⟨b, 1, none⟩ = some (.slice none 0 0) ∧ W.cell? ⟨b, 2, none⟩ = some (.slice none 0 0) ∧ W.cell? ⟨b, 3, none⟩ = some (.int .i64 0) ∧ W.cell? ⟨b, 4, none⟩ = some (.int .i64 0) ∧ W.cell? ⟨b, 5, none⟩ = some (.bool false) ∧ W.cell? ⟨b, 6, none⟩ = some (.bool false) ∧ W.cell? ⟨b, 7, none⟩ = some (.int .u8 0) ∧ W.cell? ⟨b, 8, none⟩ = some (.string ⟨#[]⟩) ∧ W.cell? ⟨b, 9, none⟩ = some (.slice none 0 0) ∧ W.cell? ⟨b, 10, none⟩ = some (.slice none 0 0)) := Lib.hid (fun W h => ⟨cell_blk h 0, cell_blk h 1, cell_blk h 2, cell_blk h 3, cell_blk h 4, cell_blk h 5, cell_blk h 6, cell_blk h 7, cell_blk h 8, cell_blk h 9, cell_blk h 10⟩)
  have HE : Hid (Lx.cmR l = (Lx.noCm, 0, 110)) := Lib.hid (by
    unfold Lx.cmR
    have e : l = [] := List.eq_nil_of_length_eq_zero (by have := hA.len; omega)
    subst e
    rw [if_pos (by decide)])
  have e0 : ((n : Int) == 0) = true := by simp [h0]
  have e0' : (n : Int) = 0 := by omega
  clear hb hw1 hA hB
  go_enter Tryd.func16, Tryd.ntmps16
  go_upto_region 1 with fail
  have hZ := HW1.out
  unfold zerC at hZ
  rw [hZ, HLO.out]
  clear hZ HW1
  obtain ⟨d0, d1, d2, d3, d4, d5, d6, d7, d8, d9, d10⟩ := DRF.out w1 HRB.out
  have f0 := blk_free HRB.out 0
  have f1 := blk_free HRB.out 1
  have f2 := blk_free HRB.out 2
  have f3 := blk_free HRB.out 3
  have f4 := blk_free HRB.out 4
  have f5 := blk_free HRB.out 5
  have f6 := blk_free HRB.out 6
  have f7 := blk_free HRB.out 7
  have f8 := blk_free HRB.out 8
  have f9 := blk_free HRB.out 9
  have f10 := blk_free HRB.out 10
  clear DRF
  go_wp2
  obtain ⟨wf, hwf⟩ : ∃ zz, put11 w1 b (.string ⟨#[]⟩) (.slice none 0 0) (.slice none 0 0) (.int .i64 0) (.int .i64 0) (.bool false) (.bool false) (.int .u8 0) (.string ⟨#[]⟩) (.slice none 0 0) (.slice none 0 0) = zz := ⟨_, rfl⟩
  have hwf' := hwf
  unfold put11 at hwf'
  rw [hwf']
  have XF := put11_on HRB.out (.string ⟨#[]⟩) (.slice none 0 0) (.slice none 0 0) (.int .i64 0) (.int .i64 0) (.bool false) (.bool false) (.int .u8 0) (.string ⟨#[]⟩) (.slice none 0 0) (.slice none 0 0)
  have g := put11_grown w1 b (.string ⟨#[]⟩) (.slice none 0 0) (.slice none 0 0) (.int .i64 0) (.int .i64 0) (.bool false) (.bool false) (.int .u8 0) (.string ⟨#[]⟩) (.slice none 0 0) (.slice none 0 0)
  rw [hwf] at g XF
  have r0 := cell_blk XF 0
  have r1 := cell_blk XF 1
  have r2 := cell_blk XF 2
  have r3 := cell_blk XF 3
  have r4 := cell_blk XF 4
  have r5 := cell_blk XF 5
  have r6 := cell_blk XF 6
  have r7 := cell_blk XF 7
  have r8 := cell_blk XF 8
  have r9 := cell_blk XF 9
  have r10 := cell_blk XF 10
  refine bodyPost_ret (v := .tuple #[.agg zerC, .int .i64 0, .int .i64 110]) (by unfold zerC; simp [results, Tryd.results16, go_sem, r0, r1, r2, r3, r4, r5, r6, r7, r8, r9, r10]) rfl ⟨.slice none 0 0, .slice none 0 0, ⟨⟨0, ⟨#[]⟩, [], 0⟩, none, 0, 0, none, 0⟩, by rw [HE.out]; rfl, Lib.hid ?_, Lib.hid ?_⟩
  · exact below_grown HK.out g (fun q e => by cases e; have := HLO.out; omega) HK.out.size
  · rw [HE.out]; exact no_cm (only (frB w.heap.size) wf)
set_option maxRecDepth 20000 in
set_option maxHeartbeats 4000000 in
theorem rcmd_kind (w : World) (ao : Option Addr) (n c : Nat) (l : List Lx.Tk) (hA : TkAt w ao n c l) (hB : Lx.TkB l) (h0 : n ≠ 0) (hk : (Lx.tkAt l 0).1 ≠ 1) :
    Calls Tryd.prog 16 #[.slice ao n c] w fun e w' => ∃ (vn vm : Value) (z : Hv), e = .returned (.tuple #[.agg (cmC (Lx.cmR l).1 vn vm z), .int .i64 (Lx.cmR l).2.1, .int .i64 (Lx.cmR l).2.2]) ∧ Hid (Below w.heap.size w w') ∧ Hid (CmAt (only (frB w.heap.size) w') (Lx.cmR l).1 vn vm z) := by
  obtain ⟨b, hb⟩ : ∃ z, w.heap.size = z := ⟨_, rfl⟩
  obtain ⟨w1, hw1⟩ : ∃ z, w.alloc (.cells zerC 39) = z := ⟨_, rfl⟩
  have HK : Hid (Below w.heap.size w w1) := Lib.hid (by rw [← hw1]; exact (Below.refl _ w).alloc (Nat.le_refl _) _)
  have HRB : Hid (w1.heap[b]? = some (.cells zerC 39 (0, 0))) := Lib.hid (by rw [← hw1, ← hb, al_new])
  have HLO : Hid (w.heap.size = b) := Lib.hid hb
  have HSZ1 : Hid (w1.heap.size = b + 1) := Lib.hid (by rw [← hw1, ← hb]; simp)
  have HTB := Lib.hid hB
  have HTK := Lib.hid hA
  have HW1 := Lib.hid hw1
  have nl := tk_nlt hA
  have n1 : (n : Int) ≤ 9223372036854775807 := by omega
  have n0 : (0 : Int) ≤ (n : Int) := by omega
  have DRF : Hid (∀ (W : World), W.heap[b]? = some (.cells zerC 39 (0, 0)) → W.cell? ⟨b, 0, none⟩ = some (.string ⟨#[]⟩) ∧ W.cell? ⟨b, 1, none⟩ = some (.slice none 0 0) ∧ W.cell? ⟨b, 2, none⟩ = some (.slice none 0 0) ∧ W.cell? ⟨b, 3, none⟩ = some (.int .i64 0) ∧ W.cell? ⟨b, 4, none⟩ = some (.int .i64 0) ∧ W.cell? ⟨b, 5, none⟩ = some (.bool false) ∧ W.cell? ⟨b, 6, none⟩ = some (.bool false) ∧ W.cell? ⟨b, 7, none⟩ = some (.int .u8 0) ∧ W.cell? ⟨b, 8, none⟩ = some (.string ⟨#[]⟩) ∧ W.cell? ⟨b, 9, none⟩ = some (.slice none 0 0) ∧ W.cell? ⟨b, 10, none⟩ = some (.slice none 0 0)) := Lib.hid (fun W h => ⟨cell_blk h 0, cell_blk h 1, cell_blk h 2, cell_blk h 3, cell_blk h 4, cell_blk h 5, cell_blk h 6, cell_blk h 7, cell_blk h 8, cell_blk h 9, cell_blk h 10⟩)
  have HE : Hid (Lx.cmR l = (Lx.noCm, 0, 110)) := Lib.hid (by unfold Lx.cmR; rw [if_pos hk])
  have e0 : ((n : Int) == 0) = false := by simp; omega
  have e0' : ¬ (n : Int) = 0 := by omega
  have e1 : (0 : Int) < (n : Int) := by omega
  have HR0 : Hid (Rr w w1 (b + 1) ao n c l ⟨0, 0, 0⟩ ∨ True) := Lib.hid (.inr trivial)
  obtain ⟨tb, tp, rfl, hc⟩ := hA.here (by omega)
  have hl : 0 < l.length := by rw [hA.len]; omega
  have t0 := cell_keep (hc 0 hl).1 HK.out
  have ek : Lx.tkAt l 0 = l[0] := by unfold Lx.tkAt; rw [List.getD_eq_getElem?_getD, List.getElem?_eq_getElem hl]; rfl
  rw [← ek] at t0
  obtain ⟨kk, hkk⟩ : ∃ z, (Lx.tkAt l 0).1 = z := ⟨_, rfl⟩
  rw [hkk] at t0 hk
  have ek2 : (kk != 1) = true := by simpa using hk
  rw [Nat.zero_mul, Nat.add_zero] at t0
  clear hb hw1 hA hB hc hl ek hkk HR0
  go_enter Tryd.func16, Tryd.ntmps16
  go_upto_region 1 with fail
  have hZ := HW1.out
  unfold zerC at hZ
  rw [hZ, HLO.out]
  clear hZ HW1
  obtain ⟨d0, d1, d2, d3, d4, d5, d6, d7, d8, d9, d10⟩ := DRF.out w1 HRB.out
  have f0 := blk_free HRB.out 0
  have f1 := blk_free HRB.out 1
  have f2 := blk_free HRB.out 2
  have f3 := blk_free HRB.out 3
  have f4 := blk_free HRB.out 4
  have f5 := blk_free HRB.out 5
  have f6 := blk_free HRB.out 6
  have f7 := blk_free HRB.out 7
  have f8 := blk_free HRB.out 8
  have f9 := blk_free HRB.out 9
  have f10 := blk_free HRB.out 10
  clear DRF
  go_wp2
  obtain ⟨wf, hwf⟩ : ∃ zz, put11 w1 b (.string ⟨#[]⟩) (.slice none 0 0) (.slice none 0 0) (.int .i64 0) (.int .i64 0) (.bool false) (.bool false) (.int .u8 0) (.string ⟨#[]⟩) (.slice none 0 0) (.slice none 0 0) = zz := ⟨_, rfl⟩
  have hwf' := hwf
  unfold put11 at hwf'
  rw [hwf']
  have XF := put11_on HRB.out (.string ⟨#[]⟩) (.slice none 0 0) (.slice none 0 0) (.int .i64 0) (.int .i64 0) (.bool false) (.bool false) (.int .u8 0) (.string ⟨#[]⟩) (.slice none 0 0) (.slice none 0 0)
  have g := put11_grown w1 b (.string ⟨#[]⟩) (.slice none 0 0) (.slice none 0 0) (.int .i64 0) (.int .i64 0) (.bool false) (.bool false) (.int .u8 0) (.string ⟨#[]⟩) (.slice none 0 0) (.slice none 0 0)
  rw [hwf] at g XF
  have r0 := cell_blk XF 0
  have r1 := cell_blk XF 1
  have r2 := cell_blk XF 2
  have r3 := cell_blk XF 3
  have r4 := cell_blk XF 4
  have r5 := cell_blk XF 5
  have r6 := cell_blk XF 6
  have r7 := cell_blk XF 7
  have r8 := cell_blk XF 8
  have r9 := cell_blk XF 9
  have r10 := cell_blk XF 10
  refine bodyPost_ret (v := .tuple #[.agg zerC, .int .i64 0, .int .i64 110]) (by unfold zerC; simp [results, Tryd.results16, go_sem, r0, r1, r2, r3, r4, r5, r6, r7, r8, r9, r10]) rfl ⟨.slice none 0 0, .slice none 0 0, ⟨⟨0, ⟨#[]⟩, [], 0⟩, none, 0, 0, none, 0⟩, by rw [HE.out]; rfl, Lib.hid ?_, Lib.hid ?_⟩
  · exact below_grown HK.out g (fun q e => by cases e; have := HLO.out; omega) HK.out.size
  · rw [HE.out]; exact no_cm (only (frB w.heap.size) wf)
set_option maxRecDepth 20000 in
set_option maxHeartbeats 4000000 in
theorem rcmd_unk (w : World) (ao : Option Addr) (n c : Nat) (l : List Lx.Tk) (hA : TkAt w ao n c l) (hB : Lx.TkB l) (h0 : n ≠ 0) (hk : (Lx.tkAt l 0).1 = 1) (hs : Lx.shape (Lx.tkAt l 0).2.1 = none) :
    Calls Tryd.prog 16 #[.slice ao n c] w fun e w' => ∃ (vn vm : Value) (z : Hv), e = .returned (.tuple #[.agg (cmC (Lx.cmR l).1 vn vm z), .int .i64 (Lx.cmR l).2.1, .int .i64 (Lx.cmR l).2.2]) ∧ Hid (Below w.heap.size w w') ∧ Hid (CmAt (only (frB w.heap.size) w') (Lx.cmR l).1 vn vm z) := by
  obtain ⟨b, hb⟩ : ∃ z, w.heap.size = z := ⟨_, rfl⟩
  obtain ⟨w1, hw1⟩ : ∃ z, w.alloc (.cells zerC 39) = z := ⟨_, rfl⟩
  have HK : Hid (Below w.heap.size w w1) := Lib.hid (by rw [← hw1]; exact (Below.refl _ w).alloc (Nat.le_refl _) _)
  have HRB : Hid (w1.heap[b]? = some (.cells zerC 39 (0, 0))) := Lib.hid (by rw [← hw1, ← hb, al_new])
  have HLO : Hid (w.heap.size = b) := Lib.hid hb
  have HSZ1 : Hid (w1.heap.size = b + 1) := Lib.hid (by rw [← hw1, ← hb]; simp)
  have HTB := Lib.hid hB
  have HTK := Lib.hid hA
  have HW1 := Lib.hid hw1
  have nl := tk_nlt hA
  have n1 : (n : Int) ≤ 9223372036854775807 := by omega
  have n0 : (0 : Int) ≤ (n : Int) := by omega
  have DRF : Hid (∀ (W : World), W.heap[b]? = some (.cells zerC 39 (0, 0)) → W.cell? ⟨b, 0, none⟩ = some (.string ⟨#[]⟩) ∧ W.cell? ⟨b, 1, none⟩ = some (.slice none 0 0) ∧ W.cell? ⟨b, 2, none⟩ = some (.slice none 0 0) ∧ W.cell? ⟨b, 3, none⟩ = some (.int .i64 0) ∧ W.cell? ⟨b, 4, none⟩ = some (.int .i64 0) ∧ W.cell? ⟨b, 5, none⟩ = some (.bool false) ∧ W.cell? ⟨b, 6, none⟩ = some (.bool false) ∧ W.cell? ⟨b, 7, none⟩ = some (.int .u8 0) ∧ W.cell? ⟨b, 8, none⟩ = some (.string ⟨#[]⟩) ∧ W.cell? ⟨b, 9, none⟩ = some (.slice none 0 0) ∧ W.cell? ⟨b, 10, none⟩ = some (.slice none 0 0)) := Lib.hid (fun W h => ⟨cell_blk h 0, cell_blk h 1, cell_blk h 2, cell_blk h 3, cell_blk h 4, cell_blk h 5, cell_blk h 6, cell_blk h 7, cell_blk h 8, cell_blk h 9, cell_blk h 10⟩)
  have e0 : ((n : Int) == 0) = false := by simp; omega
  have e0' : ¬ (n : Int) = 0 := by omega
  have e1 : (0 : Int) < (n : Int) := by omega
  have TTK : Hid (∀ W, Below w.heap.size w W → ∃ tb tp, ao = some ⟨tb, tp, none⟩ ∧ W.cell? ⟨tb, tp, none⟩ = some (.int .u8 (Lx.tkAt l 0).1) ∧ W.cell? ⟨tb, tp + 1, none⟩ = some (.string ⟨(Lx.tkAt l 0).2.1.toArray⟩)) := Lib.hid (fun W q => by
    obtain ⟨tb, tp, e, hc⟩ := hA.here (by omega)
    have hl : 0 < l.length := by rw [hA.len]; omega
    have ek : Lx.tkAt l 0 = l[0] := by unfold Lx.tkAt; rw [List.getD_eq_getElem?_getD, List.getElem?_eq_getElem hl]; rfl
    rw [ek]
    have a := cell_keep (hc 0 hl).1 q
    have b := cell_keep (hc 0 hl).2.1 q
    rw [Nat.zero_mul, Nat.add_zero] at a b
    exact ⟨tb, tp, e, a, b⟩)
  obtain ⟨tb, tp, rfl, t0, t1⟩ := TTK.out w1 HK.out
  have TTK : Hid (∀ W, Below w.heap.size w W → W.cell? ⟨tb, tp + 1, none⟩ = some (.string ⟨(Lx.tkAt l 0).2.1.toArray⟩)) := Lib.hid (fun W q => by
    obtain ⟨_, _, e, _, b⟩ := TTK.out W q
    cases e; exact b)
  rw [hk] at t0
  have HE : Hid (Lx.cmR l = (Lx.noCm, 0, 110)) := Lib.hid (by unfold Lx.cmR; rw [if_neg (fun q => q hk), hs])
  have HSH := Lib.hid (fun W => rshape_any ⟨(Lx.tkAt l 0).2.1.toArray⟩ W)
  rw [show (⟨(Lx.tkAt l 0).2.1.toArray⟩ : ByteArray).data.toList = (Lx.tkAt l 0).2.1 by simp, hs] at HSH
  unfold shV at HSH
  obtain ⟨bd, hbd⟩ : ∃ z : ByteArray, ⟨(Lx.tkAt l 0).2.1.toArray⟩ = z := ⟨_, rfl⟩
  rw [hbd] at HSH t1
  clear hb hw1 hA hB hk hs hbd TTK
  go_enter Tryd.func16, Tryd.ntmps16
  go_upto_region 1 with fail
  have hZ := HW1.out
  unfold zerC at hZ
  rw [hZ, HLO.out]
  clear hZ HW1
  go_wp2_with fail
  (with_reducible refine (HSH.out w1).mono ?_)
  rintro e w4 ⟨rfl, rfl⟩
  clear HSH t0 t1
  obtain ⟨d0, d1, d2, d3, d4, d5, d6, d7, d8, d9, d10⟩ := DRF.out w1 HRB.out
  have f0 := blk_free HRB.out 0
  have f1 := blk_free HRB.out 1
  have f2 := blk_free HRB.out 2
  have f3 := blk_free HRB.out 3
  have f4 := blk_free HRB.out 4
  have f5 := blk_free HRB.out 5
  have f6 := blk_free HRB.out 6
  have f7 := blk_free HRB.out 7
  have f8 := blk_free HRB.out 8
  have f9 := blk_free HRB.out 9
  have f10 := blk_free HRB.out 10
  clear DRF
  go_wp2
  obtain ⟨wf, hwf⟩ : ∃ zz, put11 w1 b (.string ⟨#[]⟩) (.slice none 0 0) (.slice none 0 0) (.int .i64 0) (.int .i64 0) (.bool false) (.bool false) (.int .u8 0) (.string ⟨#[]⟩) (.slice none 0 0) (.slice none 0 0) = zz := ⟨_, rfl⟩
  have hwf' := hwf
  unfold put11 at hwf'
  rw [hwf']
  have XF := put11_on HRB.out (.string ⟨#[]⟩) (.slice none 0 0) (.slice none 0 0) (.int .i64 0) (.int .i64 0) (.bool false) (.bool false) (.int .u8 0) (.string ⟨#[]⟩) (.slice none 0 0) (.slice none 0 0)
  have g := put11_grown w1 b (.string ⟨#[]⟩) (.slice none 0 0) (.slice none 0 0) (.int .i64 0) (.int .i64 0) (.bool false) (.bool false) (.int .u8 0) (.string ⟨#[]⟩) (.slice none 0 0) (.slice none 0 0)
  rw [hwf] at g XF
  have r0 := cell_blk XF 0
  have r1 := cell_blk XF 1
  have r2 := cell_blk XF 2
  have r3 := cell_blk XF 3
  have r4 := cell_blk XF 4
  have r5 := cell_blk XF 5
  have r6 := cell_blk XF 6
  have r7 := cell_blk XF 7
  have r8 := cell_blk XF 8
  have r9 := cell_blk XF 9
  have r10 := cell_blk XF 10
  refine bodyPost_ret (v := .tuple #[.agg zerC, .int .i64 0, .int .i64 110]) (by unfold zerC; simp [results, Tryd.results16, go_sem, r0, r1, r2, r3, r4, r5, r6, r7, r8, r9, r10]) rfl ⟨.slice none 0 0, .slice none 0 0, ⟨⟨0, ⟨#[]⟩, [], 0⟩, none, 0, 0, none, 0⟩, by rw [HE.out]; rfl, Lib.hid ?_, Lib.hid ?_⟩
  · exact below_grown HK.out g (fun q e => by cases e; have := HLO.out; omega) HK.out.size
  · rw [HE.out]; exact no_cm (only (frB w.heap.size) wf)
set_option maxRecDepth 20000 in
set_option maxHeartbeats 4000000 in
theorem rcmd_shape (w : World) (ao : Option Addr) (n c : Nat) (l : List Lx.Tk) (hA : TkAt w ao n c l) (hB : Lx.TkB l) (h0 : n ≠ 0) (hk : (Lx.tkAt l 0).1 = 1) (shl : List UInt8) (hs : Lx.shape (Lx.tkAt l 0).2.1 = some shl) :
    Calls Tryd.prog 16 #[.slice ao n c] w fun e w' => ∃ (vn vm : Value) (z : Hv), e = .returned (.tuple #[.agg (cmC (Lx.cmR l).1 vn vm z), .int .i64 (Lx.cmR l).2.1, .int .i64 (Lx.cmR l).2.2]) ∧ Hid (Below w.heap.size w w') ∧ Hid (CmAt (only (frB w.heap.size) w') (Lx.cmR l).1 vn vm z) := by
  obtain ⟨b, hb⟩ : ∃ z, w.heap.size = z := ⟨_, rfl⟩
  obtain ⟨w1, hw1⟩ : ∃ z, w.alloc (.cells zerC 39) = z := ⟨_, rfl⟩
  have HK : Hid (Below w.heap.size w w1) := Lib.hid (by rw [← hw1]; exact (Below.refl _ w).alloc (Nat.le_refl _) _)
  have HRB : Hid (w1.heap[b]? = some (.cells zerC 39 (0, 0))) := Lib.hid (by rw [← hw1, ← hb, al_new])
  have HLO : Hid (w.heap.size = b) := Lib.hid hb
  have HSZ1 : Hid (w1.heap.size = b + 1) := Lib.hid (by rw [← hw1, ← hb]; simp)
  have HTB := Lib.hid hB
  have HTK := Lib.hid hA
  have HW1 := Lib.hid hw1
  have nl := tk_nlt hA
  have n1 : (n : Int) ≤ 9223372036854775807 := by omega
  have n0 : (0 : Int) ≤ (n : Int) := by omega
  have DRF : Hid (∀ (W : World), W.heap[b]? = some (.cells zerC 39 (0, 0)) → W.cell? ⟨b, 0, none⟩ = some (.string ⟨#[]⟩) ∧ W.cell? ⟨b, 1, none⟩ = some (.slice none 0 0) ∧ W.cell? ⟨b, 2, none⟩ = some (.slice none 0 0) ∧ W.cell? ⟨b, 3, none⟩ = some (.int .i64 0) ∧ W.cell? ⟨b, 4, none⟩ = some (.int .i64 0) ∧ W.cell? ⟨b, 5, none⟩ = some (.bool false) ∧ W.cell? ⟨b, 6, none⟩ = some (.bool false) ∧ W.cell? ⟨b, 7, none⟩ = some (.int .u8 0) ∧ W.cell? ⟨b, 8, none⟩ = some (.string ⟨#[]⟩) ∧ W.cell? ⟨b, 9, none⟩ = some (.slice none 0 0) ∧ W.cell? ⟨b, 10, none⟩ = some (.slice none 0 0)) := Lib.hid (fun W h => ⟨cell_blk h 0, cell_blk h 1, cell_blk h 2, cell_blk h 3, cell_blk h 4, cell_blk h 5, cell_blk h 6, cell_blk h 7, cell_blk h 8, cell_blk h 9, cell_blk h 10⟩)
  have e0 : ((n : Int) == 0) = false := by simp; omega
  have e0' : ¬ (n : Int) = 0 := by omega
  have e1 : (0 : Int) < (n : Int) := by omega
  have TTK : Hid (∀ W, Below w.heap.size w W → ∃ tb tp, ao = some ⟨tb, tp, none⟩ ∧ W.cell? ⟨tb, tp, none⟩ = some (.int .u8 (Lx.tkAt l 0).1) ∧ W.cell? ⟨tb, tp + 1, none⟩ = some (.string ⟨(Lx.tkAt l 0).2.1.toArray⟩)) := Lib.hid (fun W q => by
    obtain ⟨tb, tp, e, hc⟩ := hA.here (by omega)
    have hl : 0 < l.length := by rw [hA.len]; omega
    have ek : Lx.tkAt l 0 = l[0] := by unfold Lx.tkAt; rw [List.getD_eq_getElem?_getD, List.getElem?_eq_getElem hl]; rfl
    rw [ek]
    have a := cell_keep (hc 0 hl).1 q
    have b := cell_keep (hc 0 hl).2.1 q
    rw [Nat.zero_mul, Nat.add_zero] at a b
    exact ⟨tb, tp, e, a, b⟩)
  obtain ⟨tb, tp, rfl, t0, t1⟩ := TTK.out w1 HK.out
  have TTK : Hid (∀ W, Below w.heap.size w W → W.cell? ⟨tb, tp + 1, none⟩ = some (.string ⟨(Lx.tkAt l 0).2.1.toArray⟩)) := Lib.hid (fun W q => by
    obtain ⟨_, _, e, _, b⟩ := TTK.out W q
    cases e; exact b)
  rw [hk] at t0
  have HCM : Hid (Lx.cmR l = Lx.told l Lx.noCm (shl.foldl (Lx.stepR l) (⟨(Lx.tkAt l 0).2.1, [], [], ⟨0, 0, false, false⟩, Lx.leaf []⟩, ⟨1, 0, 0⟩))) := Lib.hid (by unfold Lx.cmR; rw [if_neg (fun q => q hk), hs])
  have HSH := Lib.hid (fun W => rshape_any ⟨(Lx.tkAt l 0).2.1.toArray⟩ W)
  rw [show (⟨(Lx.tkAt l 0).2.1.toArray⟩ : ByteArray).data.toList = (Lx.tkAt l 0).2.1 by simp, hs] at HSH
  unfold shV at HSH
  have HOK := Lib.hid (Lx.shape_ok hs)
  obtain ⟨wd, hwd⟩ : ∃ z, (Lx.tkAt l 0).2.1 = z := ⟨_, rfl⟩
  rw [hwd] at HCM HSH TTK t1
  obtain ⟨bd, hbd⟩ : ∃ z : ByteArray, ⟨wd.toArray⟩ = z := ⟨_, rfl⟩
  have HBD := Lib.hid hbd
  rw [hbd] at HSH t1 TTK
  obtain ⟨sb, hsb⟩ : ∃ z : ByteArray, ⟨shl.toArray⟩ = z := ⟨_, rfl⟩
  have HSB : Hid (sb.size = shl.length) := Lib.hid (by rw [← hsb]; rfl)
  have HSG : Hid (∀ j (h : j < sb.size) (h' : j < shl.length), sb[j]'h = shl[j]'h') := Lib.hid (by subst hsb; intro j h h'; rfl)
  dsimp only at HSH
  rw [hsb] at HSH
  obtain ⟨R, hR⟩ : ∃ R, shl.foldl (Lx.stepR l) (⟨wd, [], [], ⟨0, 0, false, false⟩, Lx.leaf []⟩, ⟨1, 0, 0⟩) = R := ⟨_, rfl⟩
  rw [hR] at HCM
  have HF : Hid ((shl.drop 0).foldl (Lx.stepR l) (⟨wd, [], [], ⟨0, 0, false, false⟩, Lx.leaf []⟩, ⟨1, 0, 0⟩) = R) := Lib.hid hR
  obtain ⟨w5, hw5⟩ : ∃ z, (w1.alloc (.cells #[.slice (some ⟨tb, tp, none⟩) n c, .int .i64 1, .int .i64 0, .int .i64 0] 71)).alloc (.cells (cmC ⟨wd, [], [], ⟨0, 0, false, false⟩, Lx.leaf []⟩ (.slice none 0 0) (.slice none 0 0) ⟨⟨0, ⟨#[]⟩, [], 0⟩, none, 0, 0, none, 0⟩) 39) = z := ⟨_, rfl⟩
  have HT5 := TTK.out (w1.alloc (.cells #[.slice (some ⟨tb, tp, none⟩) n c, .int .i64 1, .int .i64 0, .int .i64 0] 71)) (HK.out.alloc HK.out.size _)
  have HK5 : Below w1.heap.size w1 w5 := by rw [← hw5]; exact ((Below.refl _ w1).alloc (Nat.le_refl _) _).alloc (by simp) _
  have HI : Hid (CmR w w5 b (b + 1) (b + 2) (some ⟨tb, tp, none⟩) n c l ⟨1, 0, 0⟩ 0 ⟨wd, [], [], ⟨0, 0, false, false⟩, Lx.leaf []⟩ (.slice none 0 0) (.slice none 0 0) ⟨⟨0, ⟨#[]⟩, [], 0⟩, none, 0, 0, none, 0⟩) := Lib.hid (by
    refine ⟨⟨HK.out.trans (HK5.mono HK.out.size), by omega, ?_, HTK.out, by show 1 ≤ n; omega⟩, ⟨HLO.out, rfl, by omega⟩, blk_below HRB.out HK5, ?_, World.ownsRow_nil _ _ _ _, World.ownsRow_nil _ _ _ _, (fun y hy => by cases hy), ⟨Nat.le_refl _, Nat.le_refl _⟩, Lx.pi_zero 1, (ex_leaf' _ [] (Nat.zero_le _)).more (by omega)⟩
    · rw [← hw5, al_old _ _ (by simp; have := HSZ1.out; omega), ← HSZ1.out, al_new]; rfl
    · rw [← hw5]
      have := al_new (w1.alloc (.cells #[.slice (some ⟨tb, tp, none⟩) n c, .int .i64 1, .int .i64 0, .int .i64 0] 71)) (.cells (cmC ⟨wd, [], [], ⟨0, 0, false, false⟩, Lx.leaf []⟩ (.slice none 0 0) (.slice none 0 0) ⟨⟨0, ⟨#[]⟩, [], 0⟩, none, 0, 0, none, 0⟩) 39)
      simpa [HSZ1.out] using this)
  unfold cmC strV at hw5
  dsimp only at hw5
  rw [hbd] at hw5
  have HW5 := Lib.hid hw5
  have hs1 : (shl.length : Int) ≤ 4 := by have := HOK.out.1; omega
  clear hb hw1 hA hB hk hs hbd TTK hwd hsb hR hw5 HK5
  go_enter Tryd.func16, Tryd.ntmps16
  go_upto_region 1 with fail
  have hZ := HW1.out
  unfold zerC at hZ
  rw [hZ, HLO.out]
  clear hZ HW1
  go_wp2_with fail
  (with_reducible refine (HSH.out w1).mono ?_)
  rintro e w4 ⟨rfl, rfl⟩
  clear HSH t0
  go_upto_region 9 with fail
  try rw [HSZ1.out]
  rw [HW5.out]
  clear HW5 HT5 t1
  go_loopw [9] (fun ii wr => ∃ (pos : Nat) (cm : Lx.Cm) (st : Lx.St) (vn vm : Value) (z : Hv), pos ≤ shl.length ∧ ii = .int .i64 pos ∧ Hid (CmR w wr b (b + 1) (b + 2) (some ⟨tb, tp, none⟩) n c l st pos cm vn vm z) ∧ Hid ((shl.drop pos).foldl (Lx.stepR l) (cm, st) = R)) (fun ii _ => shl.length - (intOf ii).toNat)
  case atStart => exact ⟨0, _, _, _, _, _, Nat.zero_le _, rfl, HI, HF⟩
  case round =>
    clear HI HF HRB HTK HK HSZ1
    obtain ⟨pos, cm, st, vn, vm, z, hk, rfl, HI, HF⟩ := hrel
    have p0 : (0 : Int) ≤ (pos : Int) := by omega
    by_cases hp : pos < shl.length
    · have hp2 : pos < sb.size := by rw [HSB.out]; exact hp
      have p1 : (pos : Int) < (sb.size : Int) := by omega
      have p2 : (pos : Int) ≤ 4 := by omega
      have hOk := HOK.out.2 pos hp
      have HL4 := HOK.out.1
      have HF2 : Hid ((shl.drop (pos + 1)).foldl (Lx.stepR l) (Lx.stepR l (cm, st) shl[pos]) = R) := Lib.hid (by rw [← HF.out, List.drop_eq_getElem_cons hp]; rfl)
      have hL := HSG.out pos hp2 hp
      have HFEW : cm.names.length ≤ 100 ∧ cm.nums.length ≤ 100 := by have := HI.out.few; omega
      have HFEW2 := Lib.hid HI.out.few
      obtain ⟨f1, f2'⟩ := HFEW
      have HI2 := Lib.hid HI.out.turn
      clear HI HF
      rcases hOk with (e | e | e | e) | ⟨e, hend⟩
      · have hxx : ((sb[pos]'hp2).toNat : Int) = 110 := by rw [hL, e]; rfl
        have hy : shl[pos] = 110 := e
        rw [e] at HF2
        clear e hL hy
        have HD := Lib.hid (HI2.out.keep (Below.refl _ wr).drew)
        have HN := Lib.hid (rdname_any w wr.drew (b + 1) _ n c l st HD.out.rd)
        have HPS : Hid (Lx.PI (Lx.name l st).2) := Lib.hid (HD.out.pi.on (Lx.name_on l st) (Lx.name_parts l st))
        have HF3 : Hid ((shl.drop (pos + 1)).foldl (Lx.stepR l) ((⟨cm.word, cm.names ++ [(Lx.name l st).1], cm.nums, cm.rg, cm.ex⟩ : Lx.Cm), (Lx.name l st).2) = R) := HF2
        obtain ⟨⟨x, s2⟩, hz⟩ : ∃ z, Lx.name l st = z := ⟨_, rfl⟩
        rw [hz] at HN HPS HF3
        dsimp only at HN HPS HF3
        obtain ⟨xb, hxb⟩ : ∃ z : ByteArray, ⟨x.toArray⟩ = z := ⟨_, rfl⟩
        have HXV : Hid (Value.string xb = strV x) := Lib.hid (by rw [← hxb]; rfl)
        rw [hxb] at HN
        clear hxb
        obtain ⟨i1', hm0, hm1, hm2, hm3⟩ := info_parts' info9c
        have e2 : wr.cell? ⟨b + 2, 1, none⟩ = some vn := cell_blk HI2.out.box 1
        clear hz HF2
        go_upto_region 14 with fail
        go_region_law (first
          | (go_simp; go_at_call 38; (with_reducible refine HN.out.mono ?_); rintro e w3 ⟨rfl, HR3, HG3⟩; have HI3 := Lib.hid (HD.out.step HR3.out HG3.out HPS.out); clear e2; have e2 : w3.cell? ⟨b + 2, 1, none⟩ = some vn := cell_blk HI3.out.box 1; have z3 := HI3.out.sz; have z4 := HI3.out.lt; have e3 : (w3.alloc (.cells #[.string xb] 9)).cell? ⟨b + 2, 1, none⟩ = some vn := cell_blk ((al_old _ _ z3.2).trans HI3.out.box) 1)
          | (refine step_append_lies _ rfl (.tmp 56) (.tmp 59) 35 rfl (b + 2 + 1) 9 i1' _ 1 16 Tryd.underlying35 hm0 hm1 hm2 hm3 rfl (by decide) vn (cm.names).length (cm.names.map strV) rfl (HI3.out.nr.alloc _) _ 1 1 [.string xb] rfl rfl (World.news_of_block (al_new _ _)) (fun u hu => by simp at hu; subst hu; rfl) (by decide) (by unfold maxLen; omega) (by omega) (Nat.le_trans HI3.out.sz.1 (by simp)) _ rfl ?_; intro g cap w4 own gr hv hlt; have HO4 := Lib.hid own; have HG4 := Lib.hid gr; have HV4 := Lib.hid hv; have X4 := Lib.hid (HI3.out.box4 gr (fun q e => (HI3.out.nr.lt q e).1)); clear own gr hv hlt e2; have e2 : w4.cell? ⟨b + 2, 1, none⟩ = some vn := cell_blk X4.out 1; have f2 := blk_free X4.out 1))
        all_goals
          have HI5 := Lib.hid ((HI3.out.keep ((Below.refl _ w3).alloc (Nat.le_refl _) (.cells #[.string xb] 9))).name (w4 := w4) (v' := .slice (some ⟨g, 0, none⟩) (cm.names.length + 1) cap) (x := x) (by have := HO4.out; rw [HXV.out] at this; simpa using this) HG4.out (by rcases HV4.out with e | e; exact .inl e.symm; exact .inr (fun q e' => by have e3' : g = q := Option.some.inj e'; omega)) (by have := HFEW2.out; omega))
          obtain ⟨w5, hw5⟩ : ∃ x, w4.setCell ⟨b + 2, 1, none⟩ (.slice (some ⟨g, 0, none⟩) (cm.names.length + 1) cap) = x := ⟨_, rfl⟩
          rw [hw5] at HI5 ⊢
          clear hw5 HI3 HI2 HD HO4 HG4 X4 e2 f2 HR3 HG3 HN HV4
          go_wp2
          go_roundw
          case rel => exact ⟨pos + 1, _, _, _, _, _, by omega, by go_num, HI5, HF3⟩
          case measure => simp [intOf]; omega
      · have hxx : ((sb[pos]'hp2).toNat : Int) = 105 := by rw [hL, e]; rfl
        rw [e] at HF2
        clear e hL
        have HD := Lib.hid (HI2.out.keep (Below.refl _ wr).drew)
        have HN := Lib.hid (rdnumber_any w wr.drew (b + 1) _ n c l st HD.out.rd)
        have HPS : Hid (Lx.PI (Lx.number l st).2) := Lib.hid (HD.out.pi.on (Lx.number_on l st) (Lx.number_parts l st))
        have HF3 : Hid ((shl.drop (pos + 1)).foldl (Lx.stepR l) ((⟨cm.word, cm.names, cm.nums ++ [(Lx.number l st).1], cm.rg, cm.ex⟩ : Lx.Cm), (Lx.number l st).2) = R) := HF2
        have HXB := Lib.hid (Lx.number_B HTB.out st)
        obtain ⟨⟨x, s2⟩, hz⟩ : ∃ z, Lx.number l st = z := ⟨_, rfl⟩
        rw [hz] at HN HPS HF3 HXB
        dsimp only at HN HPS HF3 HXB
        obtain ⟨i1', hm0, hm1, hm2, hm3⟩ := info_parts' info2'
        have e2 : wr.cell? ⟨b + 2, 2, none⟩ = some vm := cell_blk HI2.out.box 2
        clear hz HF2
        go_upto_region 16 with fail
        go_region_law (first
          | (go_simp; go_at_call 39; (with_reducible refine HN.out.mono ?_); rintro e w3 ⟨rfl, HR3, HG3⟩; have HI3 := Lib.hid (HD.out.step HR3.out HG3.out HPS.out); clear e2; have e2 : w3.cell? ⟨b + 2, 2, none⟩ = some vm := cell_blk HI3.out.box 2; have z3 := HI3.out.sz; have z4 := HI3.out.lt; have e3 : (w3.alloc (.cells #[.int .i64 x] 2)).cell? ⟨b + 2, 2, none⟩ = some vm := cell_blk ((al_old _ _ z3.2).trans HI3.out.box) 2)
          | (refine step_append_lies _ rfl (.tmp 65) (.tmp 68) 28 rfl (b + 2 + 1) 2 i1' _ 1 8 Tryd.underlying28 hm0 hm1 hm2 hm3 rfl (by decide) vm (cm.nums).length (cm.nums.map (Value.int .i64)) rfl (HI3.out.mr.alloc _) _ 1 1 [.int .i64 x] rfl rfl (World.news_of_block (al_new _ _)) (fun u hu => by simp at hu; subst hu; rfl) (by decide) (by unfold maxLen; omega) (by omega) (Nat.le_trans HI3.out.sz.1 (by simp)) _ rfl ?_; intro g cap w4 own gr hv hlt; have HO4 := Lib.hid own; have HG4 := Lib.hid gr; have HV4 := Lib.hid hv; have X4 := Lib.hid (HI3.out.box4 gr (fun q e => (HI3.out.mr.lt q e).1)); clear own gr hv hlt e2; have e2 : w4.cell? ⟨b + 2, 2, none⟩ = some vm := cell_blk X4.out 2; have f2 := blk_free X4.out 2))
        all_goals
          have HI5 := Lib.hid ((HI3.out.keep ((Below.refl _ w3).alloc (Nat.le_refl _) (.cells #[.int .i64 x] 2))).num (w4 := w4) (v' := .slice (some ⟨g, 0, none⟩) (cm.nums.length + 1) cap) (x := x) HXB.out (by have := HO4.out; simpa using this) HG4.out (by rcases HV4.out with e | e; exact .inl e.symm; exact .inr (fun q e' => by have e3' : g = q := Option.some.inj e'; omega)) (by have := HFEW2.out; omega))
          obtain ⟨w5, hw5⟩ : ∃ x, w4.setCell ⟨b + 2, 2, none⟩ (.slice (some ⟨g, 0, none⟩) (cm.nums.length + 1) cap) = x := ⟨_, rfl⟩
          rw [hw5] at HI5 ⊢
          clear hw5 HI3 HI2 HD HO4 HG4 X4 e2 f2 HR3 HG3 HN HV4
          go_wp2
          go_roundw
          case rel => exact ⟨pos + 1, _, _, _, _, _, by omega, by go_num, HI5, HF3⟩
          case measure => simp [intOf]; omega
      · have hxx : ((sb[pos]'hp2).toNat : Int) = 114 := by rw [hL, e]; rfl
        rw [e] at HF2
        clear e hL
        have HN := Lib.hid (rdspan_any w wr (b + 1) _ n c l st HI2.out.rd)
        have HPS : Hid (Lx.PI (Lx.spanR l st).2) := Lib.hid (by rw [(Lx.spanR_eq l st).1]; exact HI2.out.pi.on (Lx.span_on l st) (Lx.span_parts l st))
        have HF3 : Hid ((shl.drop (pos + 1)).foldl (Lx.stepR l) ((⟨cm.word, cm.names, cm.nums, (Lx.spanR l st).1, cm.ex⟩ : Lx.Cm), (Lx.spanR l st).2) = R) := HF2
        obtain ⟨⟨⟨r1, r2, r3, r4⟩, s2⟩, hz⟩ : ∃ z, Lx.spanR l st = z := ⟨_, rfl⟩
        rw [hz] at HN HPS HF3
        dsimp only at HN HPS HF3
        clear hz HF2
        go_upto_region 18 with fail
        go_wp2_with fail
        (with_reducible refine HN.out.mono ?_)
        rintro e w7 ⟨rfl, HR3, HG3⟩
        have HI3 := Lib.hid (HI2.out.step HR3.out HG3.out HPS.out)
        have d0 : w7.cell? ⟨b + 2, 3, none⟩ = some (.int .i64 cm.rg.low) := cell_blk HI3.out.box 3
        have d1 : w7.cell? ⟨b + 2, 4, none⟩ = some (.int .i64 cm.rg.high) := cell_blk HI3.out.box 4
        have d2 : w7.cell? ⟨b + 2, 5, none⟩ = some (.bool cm.rg.hl) := cell_blk HI3.out.box 5
        have d3 : w7.cell? ⟨b + 2, 6, none⟩ = some (.bool cm.rg.hh) := cell_blk HI3.out.box 6
        have g0 := blk_free HI3.out.box 3
        have g1 := blk_free HI3.out.box 4
        have g2 := blk_free HI3.out.box 5
        have g3 := blk_free HI3.out.box 6
        have HI5 := Lib.hid (HI3.out.range ⟨r1, r2, r3, r4⟩)
        clear HI3 HI2 HR3 HG3 HN
        go_wp2
        go_roundw
        case rel => exact ⟨pos + 1, _, _, _, _, _, by omega, by go_num, HI5, HF3⟩
        case measure => simp [intOf]; omega
      · have hxx : ((sb[pos]'hp2).toNat : Int) = 61 := by rw [hL, e]; rfl
        rw [e] at HF2
        clear e hL
        have HN := Lib.hid (rmrk_l w wr (b + 1) _ n c l st [61] HI2.out.rd)
        have HPS : Hid (Lx.PI (Lx.mark l st [61])) := Lib.hid (HI2.out.pi.on (Lx.mark_on l st _) (Lx.mark_parts l st _))
        have HF3 : Hid ((shl.drop (pos + 1)).foldl (Lx.stepR l) (cm, Lx.mark l st [61]) = R) := HF2
        obtain ⟨s2, hz⟩ : ∃ z, Lx.mark l st [61] = z := ⟨_, rfl⟩
        rw [hz] at HN HPS HF3
        clear hz HF2
        go_upto_region 12 with fail
        go_wp2_with fail
        (with_reducible refine HN.out.mono ?_)
        rintro e w7 ⟨rfl, HR3, HG3⟩
        have HI5 := Lib.hid (HI2.out.step HR3.out HG3.out HPS.out)
        clear HI2 HR3 HG3 HN
        go_wp2
        go_roundw
        case rel => exact ⟨pos + 1, _, _, _, _, _, by omega, by go_num, HI5, HF3⟩
        case measure => simp [intOf]; omega
      · have hxx : ((sb[pos]'hp2).toNat : Int) = 101 := by rw [hL, e]; rfl
        rw [e] at HF2
        clear e hL
        have HN := Lib.hid (rexpr_any w (b + 1) _ n c l HTB.out 40 (by omega) wr st HI2.out.rd HI2.out.pi)
        rw [show (41 : Int) - ((40 : Nat) : Int) = 1 by decide] at HN
        have HPS : Hid (Lx.PI (Lx.partR l 40 st).2) := Lib.hid (Lx.partR_PI l 40 st HI2.out.pi)
        have HF3 : Hid ((shl.drop (pos + 1)).foldl (Lx.stepR l) ((⟨cm.word, cm.names, cm.nums, cm.rg, (Lx.partR l 40 st).1⟩ : Lx.Cm), (Lx.partR l 40 st).2) = R) := HF2
        obtain ⟨⟨F, s2⟩, hz⟩ : ∃ z, Lx.partR l 40 st = z := ⟨_, rfl⟩
        rw [hz] at HN HPS HF3
        dsimp only at HN HPS HF3
        clear hz HF2
        go_upto_region 20 with fail
        go_wp2_with fail
        (with_reducible refine HN.out.mono ?_)
        rintro e w7 ⟨⟨⟨zo, znm, znu, zk⟩, zan, znn, znc, zaa, zac⟩, rfl, HR3, HG3, HX3⟩
        have HI3 := Lib.hid (HI2.out.step HR3.out HG3.out HPS.out)
        have d0 : w7.cell? ⟨b + 2, 7, none⟩ = some (.int .u8 z.p.op) := cell_blk HI3.out.box 7
        have d1 : w7.cell? ⟨b + 2, 8, none⟩ = some (.string z.p.nm) := cell_blk HI3.out.box 8
        have d2 : w7.cell? ⟨b + 2, 9, none⟩ = some (.slice z.an z.nn z.nc) := cell_blk HI3.out.box 9
        have d3 : w7.cell? ⟨b + 2, 10, none⟩ = some (.slice z.aa z.p.k z.ac) := cell_blk HI3.out.box 10
        have g0 := blk_free HI3.out.box 7
        have g1 := blk_free HI3.out.box 8
        have g2 := blk_free HI3.out.box 9
        have g3 := blk_free HI3.out.box 10
        have HI5 := Lib.hid (HI3.out.expr ⟨⟨zo, znm, znu, zk⟩, zan, znn, znc, zaa, zac⟩ F (B := wr.heap.size) HI2.out.sz.1 (fun q e => (HI2.out.nr.lt q e).2) (fun q e => (HI2.out.mr.lt q e).2) HX3.out)
        clear HI3 HI2 HR3 HG3 HN
        go_wp2
        go_roundw
        case rel => exact ⟨pos + 1, _, _, _, _, _, by omega, by go_num, HI5, HF3⟩
        case measure => simp [intOf]; omega
    · obtain rfl : pos = shl.length := by omega
      have pe : ¬ (shl.length : Int) < (sb.size : Int) := by have := HSB.out; omega
      have HRE : Hid (R = (cm, st)) := Lib.hid (by rw [← HF.out, List.drop_length]; rfl)
      have HNF := Lib.hid (rdend_any w wr (b + 1) _ n c l st HI.out.rd)
      have hC := HCM.out
      rw [HRE.out] at hC
      unfold Lx.told at hC
      unfold endV at HNF
      dsimp only at hC
      obtain ⟨sf, hsf⟩ : ∃ z, Lx.failed l st = z := ⟨_, rfl⟩
      rw [hsf] at hC HNF
      have hE2 := Lib.hid hC
      clear hC HF HRE hsf HCM
      by_cases hw : sf.wrong = 0
      · have HE : Hid (Lx.cmR l = (cm, -1, 0)) := Lib.hid (by rw [hE2.out, if_pos hw])
        rw [if_pos hw, hw] at HNF
        clear hw hE2
        go_upto_region 21 with fail
        go_wp2_with fail
        (with_reducible refine HNF.out.mono ?_)
        rintro e w7 ⟨rfl, HG4⟩
        clear HNF
        have HRS := Lib.hid (blk_stay HI.out.res HG4.out (by have := HI.out.lt; omega))
        have HBX := Lib.hid (blk_stay HI.out.box HG4.out (by have := HI.out.lt; omega))
        have HOUT : Hid (∀ wf, wr.grownBy wf (some (b + 1)) → True) := Lib.hid (fun _ _ => trivial)
        have HBW : Hid (Below w.heap.size w w7) := Lib.hid (below_grown HI.out.rd.bw HG4.out (fun q e => by cases e; exact HI.out.rd.lo) HI.out.rd.bw.size)
        have HCA := Lib.hid (HI.out.endC HG4.out)
        obtain ⟨⟨a1, y1, rfl, _⟩, ⟨a2, y2, rfl, _⟩, _⟩ := HCA.out
        obtain ⟨wb, hwb⟩ : ∃ z : ByteArray, ⟨cm.word.toArray⟩ = z := ⟨_, rfl⟩
        have HWB := Lib.hid hwb
        have x0 : w7.cell? ⟨b + 2, 0, none⟩ = some (.string wb) := by rw [← hwb]; exact cell_blk HBX.out 0
        have x1 : w7.cell? ⟨b + 2, 1, none⟩ = some (.slice a1 cm.names.length y1) := cell_blk HBX.out 1
        have x2 : w7.cell? ⟨b + 2, 2, none⟩ = some (.slice a2 cm.nums.length y2) := cell_blk HBX.out 2
        have x3 : w7.cell? ⟨b + 2, 3, none⟩ = some (.int .i64 cm.rg.low) := cell_blk HBX.out 3
        have x4 : w7.cell? ⟨b + 2, 4, none⟩ = some (.int .i64 cm.rg.high) := cell_blk HBX.out 4
        have x5 : w7.cell? ⟨b + 2, 5, none⟩ = some (.bool cm.rg.hl) := cell_blk HBX.out 5
        have x6 : w7.cell? ⟨b + 2, 6, none⟩ = some (.bool cm.rg.hh) := cell_blk HBX.out 6
        have x7 : w7.cell? ⟨b + 2, 7, none⟩ = some (.int .u8 z.p.op) := cell_blk HBX.out 7
        have x8 : w7.cell? ⟨b + 2, 8, none⟩ = some (.string z.p.nm) := cell_blk HBX.out 8
        have x9 : w7.cell? ⟨b + 2, 9, none⟩ = some (.slice z.an z.nn z.nc) := cell_blk HBX.out 9
        have x10 : w7.cell? ⟨b + 2, 10, none⟩ = some (.slice z.aa z.p.k z.ac) := cell_blk HBX.out 10
        clear hwb HOUT
        obtain ⟨d0, d1, d2, d3, d4, d5, d6, d7, d8, d9, d10⟩ := DRF.out w7 HRS.out
        have f0 := blk_free HRS.out 0
        have f1 := blk_free HRS.out 1
        have f2 := blk_free HRS.out 2
        have f3 := blk_free HRS.out 3
        have f4 := blk_free HRS.out 4
        have f5 := blk_free HRS.out 5
        have f6 := blk_free HRS.out 6
        have f7 := blk_free HRS.out 7
        have f8 := blk_free HRS.out 8
        have f9 := blk_free HRS.out 9
        have f10 := blk_free HRS.out 10
        go_wp2
        obtain ⟨wf, hwf⟩ : ∃ zz, put11 w7 b (.string wb) (.slice a1 cm.names.length y1) (.slice a2 cm.nums.length y2) (.int .i64 cm.rg.low) (.int .i64 cm.rg.high) (.bool cm.rg.hl) (.bool cm.rg.hh) (.int .u8 z.p.op) (.string z.p.nm) (.slice z.an z.nn z.nc) (.slice z.aa z.p.k z.ac) = zz := ⟨_, rfl⟩
        have hwf' := hwf
        unfold put11 at hwf'
        rw [hwf']
        have XF := put11_on HRS.out (.string wb) (.slice a1 cm.names.length y1) (.slice a2 cm.nums.length y2) (.int .i64 cm.rg.low) (.int .i64 cm.rg.high) (.bool cm.rg.hl) (.bool cm.rg.hh) (.int .u8 z.p.op) (.string z.p.nm) (.slice z.an z.nn z.nc) (.slice z.aa z.p.k z.ac)
        have g := put11_grown w7 b (.string wb) (.slice a1 cm.names.length y1) (.slice a2 cm.nums.length y2) (.int .i64 cm.rg.low) (.int .i64 cm.rg.high) (.bool cm.rg.hl) (.bool cm.rg.hh) (.int .u8 z.p.op) (.string z.p.nm) (.slice z.an z.nn z.nc) (.slice z.aa z.p.k z.ac)
        rw [hwf] at g XF
        have r0 := cell_blk XF 0
        have r1 := cell_blk XF 1
        have r2 := cell_blk XF 2
        have r3 := cell_blk XF 3
        have r4 := cell_blk XF 4
        have r5 := cell_blk XF 5
        have r6 := cell_blk XF 6
        have r7 := cell_blk XF 7
        have r8 := cell_blk XF 8
        have r9 := cell_blk XF 9
        have r10 := cell_blk XF 10
        refine bodyPost_ret (v := .tuple #[.agg #[.string wb, .slice a1 cm.names.length y1, .slice a2 cm.nums.length y2, .int .i64 cm.rg.low, .int .i64 cm.rg.high, .bool cm.rg.hl, .bool cm.rg.hh, .int .u8 z.p.op, .string z.p.nm, .slice z.an z.nn z.nc, .slice z.aa z.p.k z.ac], .int .i64 (-1), .int .i64 0]) (by simp [results, Tryd.results16, go_sem, r0, r1, r2, r3, r4, r5, r6, r7, r8, r9, r10]) rfl ⟨_, _, z, by rw [HE.out, ← HWB.out]; rfl, Lib.hid ?_, Lib.hid ?_⟩
        · exact below_grown HBW.out g (fun q e => by cases e; have := HLO.out; omega) HBW.out.size
        · rw [HE.out]
          refine HCA.out.sub (only_sub (fun q e lt => ⟨frB_le (by have := le_frB e; have := HLO.out; omega), g.block q lt (fun e' => ?_)⟩))
          have := le_frB e
          cases e'
          omega
      · have HE : Hid (Lx.cmR l = (Lx.noCm, (sf.at_ : Int), sf.wrong)) := Lib.hid (by rw [hE2.out, if_neg hw])
        rw [if_neg hw] at HNF
        have hw2 : (sf.wrong != 0) = true := by simpa using hw
        obtain ⟨xa, hxa⟩ : ∃ z, sf.at_ = z := ⟨_, rfl⟩
        obtain ⟨xw, hxw⟩ : ∃ z, sf.wrong = z := ⟨_, rfl⟩
        rw [hxa, hxw] at HNF HE
        rw [hxw] at hw2
        clear hw hE2 hxa hxw
        go_upto_region 21 with fail
        go_wp2_with fail
        (with_reducible refine HNF.out.mono ?_)
        rintro e w7 ⟨rfl, HG4⟩
        clear HNF
        have HRS := Lib.hid (blk_stay HI.out.res HG4.out (by have := HI.out.lt; omega))
        have HBW : Hid (Below w.heap.size w w7) := Lib.hid (below_grown HI.out.rd.bw HG4.out (fun q e => by cases e; exact HI.out.rd.lo) HI.out.rd.bw.size)
        obtain ⟨d0, d1, d2, d3, d4, d5, d6, d7, d8, d9, d10⟩ := DRF.out w7 HRS.out
        have f0 := blk_free HRS.out 0
        have f1 := blk_free HRS.out 1
        have f2 := blk_free HRS.out 2
        have f3 := blk_free HRS.out 3
        have f4 := blk_free HRS.out 4
        have f5 := blk_free HRS.out 5
        have f6 := blk_free HRS.out 6
        have f7 := blk_free HRS.out 7
        have f8 := blk_free HRS.out 8
        have f9 := blk_free HRS.out 9
        have f10 := blk_free HRS.out 10
        go_wp2
        obtain ⟨wf, hwf⟩ : ∃ zz, put11 w7 b (.string ⟨#[]⟩) (.slice none 0 0) (.slice none 0 0) (.int .i64 0) (.int .i64 0) (.bool false) (.bool false) (.int .u8 0) (.string ⟨#[]⟩) (.slice none 0 0) (.slice none 0 0) = zz := ⟨_, rfl⟩
        have hwf' := hwf
        unfold put11 at hwf'
        rw [hwf']
        have XF := put11_on HRS.out (.string ⟨#[]⟩) (.slice none 0 0) (.slice none 0 0) (.int .i64 0) (.int .i64 0) (.bool false) (.bool false) (.int .u8 0) (.string ⟨#[]⟩) (.slice none 0 0) (.slice none 0 0)
        have g := put11_grown w7 b (.string ⟨#[]⟩) (.slice none 0 0) (.slice none 0 0) (.int .i64 0) (.int .i64 0) (.bool false) (.bool false) (.int .u8 0) (.string ⟨#[]⟩) (.slice none 0 0) (.slice none 0 0)
        rw [hwf] at g XF
        have r0 := cell_blk XF 0
        have r1 := cell_blk XF 1
        have r2 := cell_blk XF 2
        have r3 := cell_blk XF 3
        have r4 := cell_blk XF 4
        have r5 := cell_blk XF 5
        have r6 := cell_blk XF 6
        have r7 := cell_blk XF 7
        have r8 := cell_blk XF 8
        have r9 := cell_blk XF 9
        have r10 := cell_blk XF 10
        refine bodyPost_ret (v := .tuple #[.agg zerC, .int .i64 (xa : Int), .int .i64 xw]) (by unfold zerC; simp [results, Tryd.results16, go_sem, r0, r1, r2, r3, r4, r5, r6, r7, r8, r9, r10]) rfl ⟨.slice none 0 0, .slice none 0 0, ⟨⟨0, ⟨#[]⟩, [], 0⟩, none, 0, 0, none, 0⟩, by rw [HE.out]; rfl, Lib.hid ?_, Lib.hid ?_⟩
        · exact below_grown HBW.out g (fun q e => by cases e; have := HLO.out; omega) HBW.out.size
        · rw [HE.out]; exact no_cm (only (frB w.heap.size) wf)


theorem rcmd_any (w : World) (ao : Option Addr) (n c : Nat) (l : List Lx.Tk) (hA : TkAt w ao n c l) (hB : Lx.TkB l) :
    Calls Tryd.prog 16 #[.slice ao n c] w fun e w' => ∃ (vn vm : Value) (z : Hv), e = .returned (.tuple #[.agg (cmC (Lx.cmR l).1 vn vm z), .int .i64 (Lx.cmR l).2.1, .int .i64 (Lx.cmR l).2.2]) ∧ Hid (Below w.heap.size w w') ∧ Hid (CmAt (only (frB w.heap.size) w') (Lx.cmR l).1 vn vm z) := by
  by_cases h0 : n = 0
  · exact rcmd_none w ao n c l hA hB h0
  · by_cases hk : (Lx.tkAt l 0).1 = 1
    · cases hs : Lx.shape (Lx.tkAt l 0).2.1 with
      | none => exact rcmd_unk w ao n c l hA hB h0 hk hs
      | some shl => exact rcmd_shape w ao n c l hA hB h0 hk shl hs
    · exact rcmd_kind w ao n c l hA hB h0 hk

theorem rcmd_cg (w : World) (ao : Option Addr) (n c : Nat) (l : List Lx.Tk) (hA : TkAt w ao n c l) (hB : Lx.TkB l) :
    Calls Tryd.prog 16 #[.slice ao n c] w fun e w' => ∃ g : Cg, e = .returned (.tuple #[.agg #[.string g.wb, .slice g.an g.nl g.nc, .slice g.am g.ml g.mc, .int .i64 g.lo, .int .i64 g.hi, .bool g.hl, .bool g.hh, .int .u8 g.z.p.op, .string g.z.p.nm, .slice g.z.an g.z.nn g.z.nc, .slice g.z.aa g.z.p.k g.z.ac], .int .i64 (Lx.cmE l).2.1, .int .i64 (Lx.cmE l).2.2]) ∧ Hid (Below w.heap.size w w') ∧ Hid (CG w' 41 (Lx.cmE l).1 g) := by
  rw [← Lx.cmR_eq]
  refine (rcmd_any w ao n c l hA hB).mono ?_
  rintro e w' ⟨vn, vm, z, rfl, hb, hc⟩
  obtain ⟨⟨a1, c1, rfl, s1⟩, ⟨a2, c2, rfl, s2⟩, x⟩ := hc.out
  exact ⟨⟨⟨(Lx.cmR l).1.word.toArray⟩, a1, (Lx.cmR l).1.names.length, c1, a2, (Lx.cmR l).1.nums.length, c2, (Lx.cmR l).1.rg.low, (Lx.cmR l).1.rg.high, (Lx.cmR l).1.rg.hl, (Lx.cmR l).1.rg.hh, z⟩, rfl, hb, Lib.hid ⟨rfl, (s1.sub only_all).gen, s2.sub only_all, rfl, x.sub only_all⟩⟩
theorem rex_cg (w : World) (ao : Option Addr) (n c : Nat) (l : List Lx.Tk) (hA : TkAt w ao n c l) (hB : Lx.TkB l) :
    Calls Tryd.prog 14 #[.slice ao n c] w fun e w' => ∃ z : Hv, e = .returned (.tuple #[.agg #[.int .u8 z.p.op, .string z.p.nm, .slice z.an z.nn z.nc, .slice z.aa z.p.k z.ac], .int .i64 (Lx.exprE l).2.1, .int .i64 (Lx.exprE l).2.2]) ∧ Hid (Below w.heap.size w w') ∧ Hid (ExAt w' 41 (hV z) (tour (Lx.exprE l).1)) := by
  rw [← Lx.exprR_eq]
  refine (rex_any w ao n c l hA hB).mono ?_
  rintro e w' ⟨z, rfl, hb, hc⟩
  exact ⟨z, rfl, hb, Lib.hid (hc.out.sub only_all)⟩
theorem ex_cg (w : World) (ao : Option Addr) (n c : Nat) (l : List Lx.Tk) (hA : TkAt w ao n c l) (hB : Lx.TkB l) (hT : Tabn w) (hW : Tabw w) :
    Calls Tryd.prog 13 #[.slice ao n c] w fun e w' => ∃ z : Hv, e = .returned (.tuple #[.agg #[.int .u8 z.p.op, .string z.p.nm, .slice z.an z.nn z.nc, .slice z.aa z.p.k z.ac], .int .i64 (Lx.exprE l).2.1, .int .i64 (Lx.exprE l).2.2]) ∧ Hid (Below w.heap.size w w') ∧ Hid (ExAt w' 41 (hV z) (tour (Lx.exprE l).1)) := by
  refine (expr_any w ao n c l hA hB hT hW).mono ?_
  rintro e w' ⟨z, rfl, hb, hc⟩
  exact ⟨z, rfl, hb, Lib.hid (hc.out.sub only_all)⟩
set_option maxRecDepth 20000 in
set_option maxHeartbeats 8000000 in
theorem parseTells_walk (ao : Option Addr) (n c : Nat) (l : List Lx.Tk) (sw : ByteArray) (w : World) (hT : Tabn w) (hW : Tabw w) (hA : TkAt w ao n c l) (hB : Lx.TkB l) (hsw : sw.size ≤ maxLen) :
    Calls Tryd.prog 3 #[.slice ao n c, .string sw] w fun e w' => e = .returned (.bool true) ∧ Below w.heap.size w w' := by
  have HAW := Lib.hid (fun W (k : Below w.heap.size w W) => awake_any W (hT.keep k) (hW.keep k))
  have nl := tk_nlt hA
  have n1 : (n : Int) ≤ 9223372036854775807 := by omega
  have n0 : (0 : Int) ≤ (n : Int) := by omega
  by_cases y1 : (6000 : Int) < (n : Int)
  · clear hT hW hA hB hsw
    have HX := Lib.hid (HAW.out w (Below.refl _ w))
    clear HAW nl
    go_enter Tryd.func3, Tryd.ntmps3
    go_wp2_with fail
    (with_reducible refine HX.out.mono ?_)
    rintro e w1 ⟨rfl, q⟩
    go_wp2
    go_returns
    exact ⟨rfl, q⟩
  · have y2 : (n : Int) ≤ 6000 := by omega
    have H9 := Lib.hid (op_any sw w hW)
    have H10 := Lib.hid (rop_any sw w)
    have H11 := Lib.hid (fun W => shape_any sw W)
    have H12 := Lib.hid (fun W => rshape_any sw W)
    have H13 := Lib.hid (fun W (k : Below w.heap.size w W) => ex_cg W ao n c l (hA.keep k) hB (hT.keep k) (hW.keep k))
    have H14 := Lib.hid (fun W (k : Below w.heap.size w W) => rex_cg W ao n c l (hA.keep k) hB)
    have H15 := Lib.hid (fun W (k : Below w.heap.size w W) => cmd_cg W ao n c l (hA.keep k) hB (hT.keep k) (hW.keep k))
    have H16 := Lib.hid (fun W (k : Below w.heap.size w W) => rcmd_cg W ao n c l (hA.keep k) hB)
    obtain ⟨⟨EX, ei, ee⟩, hE⟩ : ∃ z, Lx.exprE l = z := ⟨_, rfl⟩
    obtain ⟨⟨CX, ci, ce⟩, hC⟩ : ∃ z, Lx.cmE l = z := ⟨_, rfl⟩
    rw [hE] at H13 H14
    rw [hC] at H15 H16
    dsimp only at H13 H14 H15 H16
    obtain ⟨on, hon⟩ : ∃ z, Lx.opN sw.data.toList = z := ⟨_, rfl⟩
    rw [hon] at H9 H10
    obtain ⟨ok, hok⟩ : ∃ z, decide (on ≠ 0) = z := ⟨_, rfl⟩
    rw [hok] at H9 H10
    obtain ⟨xs, xo, hs⟩ : ∃ (xs : ByteArray) (xo : Bool), shV (Lx.shape sw.data.toList) = .tuple #[.string xs, .bool xo] := by
      cases Lx.shape sw.data.toList with
      | none => exact ⟨_, _, rfl⟩
      | some x => exact ⟨_, _, rfl⟩
    rw [hs] at H11 H12
    clear hT hW hA hB hsw hE hC hon hok hs nl y1
    go_enter Tryd.func3, Tryd.ntmps3
    go_wp2_with fail
    (with_reducible refine H9.out.mono ?_)
    rintro e w1 ⟨rfl, rfl⟩
    clear H9
    go_wp2_with fail
    (with_reducible refine H10.out.mono ?_)
    rintro e w1 ⟨rfl, q⟩
    have HBW := Lib.hid q
    clear q H10
    go_wp2_with fail
    (with_reducible refine (H11.out _).mono ?_)
    rintro e w2 ⟨rfl, rfl⟩
    clear H11
    go_wp2_with fail
    (with_reducible refine (H12.out _).mono ?_)
    rintro e w2 ⟨rfl, rfl⟩
    clear H12
    go_wp2_with fail
    (with_reducible refine (H13.out _ HBW.out).mono ?_)
    rintro e w3 ⟨za, rfl, q, HEa⟩
    have HBW := Lib.hid (HBW.out.trans (q.out.mono HBW.out.size))
    clear q H13
    obtain ⟨A1, hb1⟩ : ∃ z, w3.heap.size = z := ⟨_, rfl⟩
    obtain ⟨w4, hw2⟩ : ∃ y, w3.alloc (.cells #[.int .u8 za.p.op, .string za.p.nm, .slice za.an za.nn za.nc, .slice za.aa za.p.k za.ac] 31) = y := ⟨_, rfl⟩
    have KA : Hid (Below w3.heap.size w3 w4) := Lib.hid (by rw [← hw2]; exact (Below.refl _ w3).alloc (Nat.le_refl _) _)
    have HA1 : Hid (w4.heap[A1]? = some (.cells #[.int .u8 za.p.op, .string za.p.nm, .slice za.an za.nn za.nc, .slice za.aa za.p.k za.ac] 31 (0, 0))) := Lib.hid (by rw [← hw2, ← hb1, al_new])
    have HWX := Lib.hid hw2
    have HBX := Lib.hid hb1
    clear hb1 hw2
    go_upto_region 10 with fail
    rw [HWX.out, HBX.out]
    clear HWX HBX
    have HBW := Lib.hid (HBW.out.trans (KA.out.mono HBW.out.size))
    have HEa := Lib.hid (HEa.out.keep KA.out)
    clear KA

    go_wp2_with fail
    (with_reducible refine (H14.out _ HBW.out).mono ?_)
    rintro e w5 ⟨zb, rfl, q, HEb⟩
    have HEa := Lib.hid (HEa.out.keep q.out)
    have HA1 := Lib.hid (blk_below HA1.out q.out)
    have HBW := Lib.hid (HBW.out.trans (q.out.mono HBW.out.size))
    clear q H14
    obtain ⟨A2, hb1⟩ : ∃ z, w5.heap.size = z := ⟨_, rfl⟩
    obtain ⟨w6, hw2⟩ : ∃ y, w5.alloc (.cells #[.int .u8 zb.p.op, .string zb.p.nm, .slice zb.an zb.nn zb.nc, .slice zb.aa zb.p.k zb.ac] 31) = y := ⟨_, rfl⟩
    have KA : Hid (Below w5.heap.size w5 w6) := Lib.hid (by rw [← hw2]; exact (Below.refl _ w5).alloc (Nat.le_refl _) _)
    have HA2 : Hid (w6.heap[A2]? = some (.cells #[.int .u8 zb.p.op, .string zb.p.nm, .slice zb.an zb.nn zb.nc, .slice zb.aa zb.p.k zb.ac] 31 (0, 0))) := Lib.hid (by rw [← hw2, ← hb1, al_new])
    have HWX := Lib.hid hw2
    have HBX := Lib.hid hb1
    clear hb1 hw2
    go_upto_region 11 with fail
    rw [HWX.out, HBX.out]
    clear HWX HBX
    have HBW := Lib.hid (HBW.out.trans (KA.out.mono HBW.out.size))
    have HEa := Lib.hid (HEa.out.keep KA.out)
    have HEb := Lib.hid (HEb.out.keep KA.out)
    have HA1 := Lib.hid (blk_below HA1.out KA.out)
    clear KA

    go_wp2_with fail
    (with_reducible refine (H15.out _ HBW.out).mono ?_)
    rintro e w7 ⟨ga, rfl, q, HCa⟩
    have HEa := Lib.hid (HEa.out.keep q.out)
    have HEb := Lib.hid (HEb.out.keep q.out)
    have HA1 := Lib.hid (blk_below HA1.out q.out)
    have HA2 := Lib.hid (blk_below HA2.out q.out)
    have HBW := Lib.hid (HBW.out.trans (q.out.mono HBW.out.size))
    clear q H15
    obtain ⟨A3, hb1⟩ : ∃ z, w7.heap.size = z := ⟨_, rfl⟩
    obtain ⟨w8, hw2⟩ : ∃ y, w7.alloc (.cells #[.string ga.wb, .slice ga.an ga.nl ga.nc, .slice ga.am ga.ml ga.mc, .int .i64 ga.lo, .int .i64 ga.hi, .bool ga.hl, .bool ga.hh, .int .u8 ga.z.p.op, .string ga.z.p.nm, .slice ga.z.an ga.z.nn ga.z.nc, .slice ga.z.aa ga.z.p.k ga.z.ac] 39) = y := ⟨_, rfl⟩
    have KA : Hid (Below w7.heap.size w7 w8) := Lib.hid (by rw [← hw2]; exact (Below.refl _ w7).alloc (Nat.le_refl _) _)
    have HA3 : Hid (w8.heap[A3]? = some (.cells #[.string ga.wb, .slice ga.an ga.nl ga.nc, .slice ga.am ga.ml ga.mc, .int .i64 ga.lo, .int .i64 ga.hi, .bool ga.hl, .bool ga.hh, .int .u8 ga.z.p.op, .string ga.z.p.nm, .slice ga.z.an ga.z.nn ga.z.nc, .slice ga.z.aa ga.z.p.k ga.z.ac] 39 (0, 0))) := Lib.hid (by rw [← hw2, ← hb1, al_new])
    have HWX := Lib.hid hw2
    have HBX := Lib.hid hb1
    clear hb1 hw2
    go_upto_region 12 with fail
    rw [HWX.out, HBX.out]
    clear HWX HBX
    have HBW := Lib.hid (HBW.out.trans (KA.out.mono HBW.out.size))
    have HEa := Lib.hid (HEa.out.keep KA.out)
    have HEb := Lib.hid (HEb.out.keep KA.out)
    have HCa := Lib.hid (HCa.out.keep KA.out)
    have HA1 := Lib.hid (blk_below HA1.out KA.out)
    have HA2 := Lib.hid (blk_below HA2.out KA.out)
    clear KA

    go_wp2_with fail
    (with_reducible refine (H16.out _ HBW.out).mono ?_)
    rintro e w9 ⟨gb, rfl, q, HCb⟩
    have HEa := Lib.hid (HEa.out.keep q.out)
    have HEb := Lib.hid (HEb.out.keep q.out)
    have HCa := Lib.hid (HCa.out.keep q.out)
    have HA1 := Lib.hid (blk_below HA1.out q.out)
    have HA2 := Lib.hid (blk_below HA2.out q.out)
    have HA3 := Lib.hid (blk_below HA3.out q.out)
    have HBW := Lib.hid (HBW.out.trans (q.out.mono HBW.out.size))
    clear q H16
    obtain ⟨A4, hb1⟩ : ∃ z, w9.heap.size = z := ⟨_, rfl⟩
    obtain ⟨w10, hw2⟩ : ∃ y, w9.alloc (.cells #[.string gb.wb, .slice gb.an gb.nl gb.nc, .slice gb.am gb.ml gb.mc, .int .i64 gb.lo, .int .i64 gb.hi, .bool gb.hl, .bool gb.hh, .int .u8 gb.z.p.op, .string gb.z.p.nm, .slice gb.z.an gb.z.nn gb.z.nc, .slice gb.z.aa gb.z.p.k gb.z.ac] 39) = y := ⟨_, rfl⟩
    have KA : Hid (Below w9.heap.size w9 w10) := Lib.hid (by rw [← hw2]; exact (Below.refl _ w9).alloc (Nat.le_refl _) _)
    have HA4 : Hid (w10.heap[A4]? = some (.cells #[.string gb.wb, .slice gb.an gb.nl gb.nc, .slice gb.am gb.ml gb.mc, .int .i64 gb.lo, .int .i64 gb.hi, .bool gb.hl, .bool gb.hh, .int .u8 gb.z.p.op, .string gb.z.p.nm, .slice gb.z.an gb.z.nn gb.z.nc, .slice gb.z.aa gb.z.p.k gb.z.ac] 39 (0, 0))) := Lib.hid (by rw [← hw2, ← hb1, al_new])
    have HWX := Lib.hid hw2
    have HBX := Lib.hid hb1
    clear hb1 hw2
    go_upto_region 13 with fail
    rw [HWX.out, HBX.out]
    clear HWX HBX
    have HBW := Lib.hid (HBW.out.trans (KA.out.mono HBW.out.size))
    have HEa := Lib.hid (HEa.out.keep KA.out)
    have HEb := Lib.hid (HEb.out.keep KA.out)
    have HCa := Lib.hid (HCa.out.keep KA.out)
    have HCb := Lib.hid (HCb.out.keep KA.out)
    have HA1 := Lib.hid (blk_below HA1.out KA.out)
    have HA2 := Lib.hid (blk_below HA2.out KA.out)
    have HA3 := Lib.hid (blk_below HA3.out KA.out)
    clear KA

    have HSE := Lib.hid (rsame_any 41 (hV za) (tour EX) 41 (hV zb) (tour EX) w10 HEa.out HEb.out true ⟨fun _ => rfl, fun _ => rfl⟩)
    unfold hV pv at HSE
    have e0 := cell_blk HA1.out 0
    have e1 := cell_blk HA1.out 1
    have e2 := cell_blk HA1.out 2
    have e3 := cell_blk HA1.out 3
    have f0 := cell_blk HA2.out 0
    have f1 := cell_blk HA2.out 1
    have f2 := cell_blk HA2.out 2
    have f3 := cell_blk HA2.out 3
    go_wp2_with fail
    (with_reducible refine HSE.out.mono ?_)
    rintro e w11 ⟨rfl, q⟩
    have HA3 := Lib.hid (blk_below HA3.out q)
    have HA4 := Lib.hid (blk_below HA4.out q)
    have HCa := Lib.hid (HCa.out.keep q)
    have HCb := Lib.hid (HCb.out.keep q)
    have HBW := Lib.hid (HBW.out.trans (q.mono HBW.out.size))
    clear q HSE e0 e1 e2 e3 f0 f1 f2 f3
    have HSC := Lib.hid (csame_flat w11 41 41 CX CX ga gb HCa.out HCb.out true ⟨fun _ => rfl, fun _ => rfl⟩)
    have e0 := cell_blk HA3.out 0
    have e1 := cell_blk HA3.out 1
    have e2 := cell_blk HA3.out 2
    have e3 := cell_blk HA3.out 3
    have e4 := cell_blk HA3.out 4
    have e5 := cell_blk HA3.out 5
    have e6 := cell_blk HA3.out 6
    have e7 := cell_blk HA3.out 7
    have e8 := cell_blk HA3.out 8
    have e9 := cell_blk HA3.out 9
    have e10 := cell_blk HA3.out 10
    have f0 := cell_blk HA4.out 0
    have f1 := cell_blk HA4.out 1
    have f2 := cell_blk HA4.out 2
    have f3 := cell_blk HA4.out 3
    have f4 := cell_blk HA4.out 4
    have f5 := cell_blk HA4.out 5
    have f6 := cell_blk HA4.out 6
    have f7 := cell_blk HA4.out 7
    have f8 := cell_blk HA4.out 8
    have f9 := cell_blk HA4.out 9
    have f10 := cell_blk HA4.out 10
    go_wp2_with fail
    (with_reducible refine HSC.out.mono ?_)
    rintro e w12 ⟨rfl, q⟩
    have HBW := Lib.hid (HBW.out.trans (q.mono HBW.out.size))
    clear q HSC e0 e1 e2 e3 e4 e5 e6 e7 e8 e9 e10 f0 f1 f2 f3 f4 f5 f6 f7 f8 f9 f10
    go_wp2_with fail
    (with_reducible refine (HAW.out _ HBW.out).mono ?_)
    rintro e w13 ⟨rfl, q⟩
    have HBW := Lib.hid (HBW.out.trans (q.mono HBW.out.size))
    go_wp2
    go_returns
    exact ⟨rfl, HBW.out⟩
end Go.Proofs.YtllhcpkpbipjlaaDoor
