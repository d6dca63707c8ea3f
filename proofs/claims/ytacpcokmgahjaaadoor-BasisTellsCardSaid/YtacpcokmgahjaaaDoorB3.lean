/- Contract: months of basis. -/
import Derived.Test.YtacpcokmgahjaaaDoorB2
import Derived.Test.YtacpcokmgahjaaaDoorC4
namespace Go.Proofs.YtacpcokmgahjaaaDoor
set_option linter.unusedVariables false
set_option linter.unusedSimpArgs false
open Go.ChangeShapes Go.WideShapes Go.ChangeAt Go.RowKit
theorem Tab.keep {w w' : World} (h : Tab w) (k : Below w.heap.size w w') : Tab w' := fun i hi => cell_keep (h i hi) k
theorem al_new (w : World) (o : Obj) : (w.alloc o).heap[w.heap.size]? = some o := by show (w.heap.push o)[w.heap.size]? = _; simp
theorem al_old (w : World) (o : Obj) {r : Nat} (h : r < w.heap.size) : (w.alloc o).heap[r]? = w.heap[r]? := Below.heap_alloc w o r h
theorem blk_free {w : World} {b : Nat} {c : Array Value} {t : TypeId} (h : w.heap[b]? = some (.cells c t (0, 0))) (k : Nat) : w.frozen? ⟨b, k, none⟩ = false := by
  unfold World.frozen?; rw [h]; simp
theorem blk_four {w : World} {b : Nat} {a0 a1 a2 a3 : Value} {t : TypeId} (h : w.heap[b]? = some (.cells #[a0, a1, a2, a3] t (0, 0))) (x0 x1 x2 x3 : Value) : ((((w.setCell ⟨b, 0, none⟩ x0).setCell ⟨b, 1, none⟩ x1).setCell ⟨b, 2, none⟩ x2).setCell ⟨b, 3, none⟩ x3).heap[b]? = some (.cells #[x0, x1, x2, x3] t (0, 0)) := by
  rw [set_block (set_block (set_block (set_block h 0 x0) 1 x1) 2 x2) 3 x3]; rfl
theorem grow_cell (w : World) (p : Addr) (u : Value) : w.grownBy (w.setCell p u) (some p.block) := ⟨rfl, rfl, rfl, by simp [World.setCell], fun q hq hne => Below.heap_setCell _ _ _ _ (by intro e; exact hne (by rw [e]))⟩
theorem grow_four (w : World) (b : Nat) (x0 x1 x2 x3 : Value) : w.grownBy ((((w.setCell ⟨b, 0, none⟩ x0).setCell ⟨b, 1, none⟩ x1).setCell ⟨b, 2, none⟩ x2).setCell ⟨b, 3, none⟩ x3) (some b) := by
  refine ⟨rfl, rfl, rfl, by simp [World.setCell], fun q hq hne => ?_⟩
  have hn : q ≠ b := fun e => hne (by rw [e])
  rw [Below.heap_setCell _ _ _ _ hn, Below.heap_setCell _ _ _ _ hn, Below.heap_setCell _ _ _ _ hn, Below.heap_setCell _ _ _ _ hn]
/-- The form of months under way. -/
structure Mo (n k : Nat) (w0 w : World) (ro c g i : Nat) : Prop where
  bw : Below w0.heap.size w0 w
  box : w.heap[c]? = some (.cells #[.int .i64 (dayS 4800), .int .i64 (k : Int), .slice (some ⟨g, 0, none⟩) k k, .slice none 0 0] 29 (0, 0))
  res : w.heap[ro]? = some (.cells #[.int .i64 0, .int .i64 0, .slice none 0 0, .slice none 0 0] 29 (0, 0))
  row : MonAt w0.heap.size n k w g i
  l1 : w0.heap.size ≤ ro
  l2 : w0.heap.size ≤ c
  l3 : w0.heap.size ≤ g
  n1 : ro ≠ c
  n2 : g ≠ c
  n3 : g ≠ ro
theorem Mo.keep {n k ro c g i : Nat} {w0 w w' : World} (h : Mo n k w0 w ro c g i) (q : Below w.heap.size w w') : Mo n k w0 w' ro c g i :=
  ⟨h.bw.trans (q.mono h.bw.size), (q.block c (Array.getElem?_eq_some_iff.1 h.box).1).trans h.box, (q.block ro (Array.getElem?_eq_some_iff.1 h.res).1).trans h.res, h.row.keep q, h.l1, h.l2, h.l3, h.n1, h.n2, h.n3⟩
theorem Mo.put {n k ro c g i h : Nat} {w0 w : World} (m : Mo n k w0 w ro c g i) (hi : i < k) (hB : w0.heap.size ≤ h) (hg : h ≠ g) (hh : w.heap[h]? = some (.cells #[.int .i64 (dayS ((i * n : Nat) : Int)), .int .i64 (dayS ((i * n + n : Nat) : Int) - 1)] 42 (0, 0))) : Mo n k w0 (w.setCell ⟨g, i, none⟩ (.slice (some ⟨h, 0, none⟩) 1 1)) ro c g (i + 1) :=
  ⟨m.bw.setCell (p := ⟨g, i, none⟩) m.l3 _, (Below.heap_setCell _ _ _ _ (by intro e; exact m.n2 e.symm)).trans m.box, (Below.heap_setCell _ _ _ _ (by intro e; exact m.n3 e.symm)).trans m.res, m.row.put hi hB hg hh, m.l1, m.l2, m.l3, m.n1, m.n2, m.n3⟩
set_option maxRecDepth 8000 in
set_option maxHeartbeats 4000000 in
theorem months_any (n k : Nat) (hnk : n * k = 4800) (hn : 1 ≤ n) (hn2 : n ≤ 12) (hk : 1 ≤ k) (w : World) (hT : Tab w) :
    Calls Tryd.prog 83 #[.int .i64 (n : Int)] w fun e w' => ∃ g, e = .returned (.agg #[.int .i64 (dayS 4800), .int .i64 (k : Int), .slice (some ⟨g, 0, none⟩) k k, .slice none 0 0]) ∧ Hid (MonAt w.heap.size n k w' g k ∧ w.heap.size ≤ g) ∧ Hid (Below w.heap.size w w') := by
  have hk2 : k ≤ 4800 := by
    have := Nat.mul_le_mul_right k hn
    omega
  have HT := Lib.hid hT
  have HST := Lib.hid (fun (m : Int) (h0 : 0 ≤ m) (h1 : m ≤ 4800) (W : World) (h : Below w.heap.size w W) => start_m m W (hT.keep h) h0 h1)
  obtain ⟨i0, hi, hz0, hz1, hz2⟩ := info_parts info38
  obtain ⟨M, hM⟩ : ∃ M, madeCells (Value.slice none 0 0).cells (k * 1) = M := ⟨_, rfl⟩
  have HMS : Hid (M.size = k) := Lib.hid (by rw [← hM, size_madeCells]; omega)
  have hmk : ∀ W : World, (Instr.makeSlice 26 (.int .i64 (k : Int)) (.int .i64 (k : Int))).run Tryd.prog W = .ok (.slice (some ⟨W.heap.size, 0, none⟩) k k) (W.alloc (.cells M 38)) := fun W => by
    have := run_makeSlice (P := Tryd.prog) W 26 38 i0 (.slice none 0 0) Tryd.underlying26 hi hz0 .i64 .i64 (k : Int) (k : Int) (by omega) (Int.le_refl _) (by rw [hz1]; simp; omega) (by rw [hz2]; omega) (by omega)
    rw [hz1] at this
    simp only [Int.toNat_natCast, hM] at this
    exact this
  have r1 : Int.tdiv 4800 (n : Int) = (k : Int) := by
    rw [Int.tdiv_eq_ediv_of_nonneg (by omega)]
    have : (4800 : Int) = (n : Int) * (k : Int) := by rw [← Int.natCast_mul, hnk]; rfl
    rw [this, Int.mul_ediv_cancel_left _ (by omega)]
  have r2 : (n : Int) ≠ 0 := by omega
  have r3 : ¬ (4800 = (-9223372036854775808 : Int) ∧ (n : Int) = -1) := by omega
  have HNK := Lib.hid hnk
  clear hT hi hz0 hz1 hz2 hM hnk
  obtain ⟨ro, hro⟩ : ∃ ro, w.heap.size = ro := ⟨_, rfl⟩
  obtain ⟨wa, hwa⟩ : ∃ wa, w.alloc (.cells #[.int .i64 0, .int .i64 0, .slice none 0 0, .slice none 0 0] 29) = wa := ⟨_, rfl⟩
  have HRO : Hid (wa.heap[ro]? = some (.cells #[.int .i64 0, .int .i64 0, .slice none 0 0, .slice none 0 0] 29 (0, 0))) := Lib.hid (by rw [← hwa, ← hro, al_new])
  have HBA : Hid (Below w.heap.size w wa) := Lib.hid (by rw [← hwa]; exact (Below.refl _ w).alloc (Nat.le_refl _) _)
  have HZA : Hid (wa.heap.size = ro + 1) := Lib.hid (by rw [← hwa, ← hro]; simp)
  have HRW := Lib.hid hro
  go_enter Tryd.func83, Tryd.ntmps83
  go_upto_region 2 with fail
  clear hwa hro
  go_cut [4] from 8 to 12 (fun s4 wx => ∃ c g, s4 = .pointer (some ⟨c, 0, none⟩) ∧ Hid (Mo n k w wx ro c g 0))
  case first =>
    refine wp_region_held_drew (S := (fun _ => True)) (by kernel_rfl) ?_ (fun hHeld => ?_)
    · trivial
    have KC : Below w.heap.size w wa.drew := HBA.out.trans (((Below.refl wa.heap.size wa).drew).mono HBA.out.size)
    have HVS : Hid (wa.heap.size = wa.drew.heap.size) := Lib.hid rfl
    have HRV : Hid (wa.drew.heap[ro]? = some (.cells #[.int .i64 0, .int .i64 0, .slice none 0 0, .slice none 0 0] 29 (0, 0))) := Lib.hid HRO.out
    generalize hv0 : wa.drew = v0 at KC HVS HRV ⊢
    clear hv0
    refine wpAnyH_take (i := 1) (oi := _) (v := ?_) rfl (by kernel_rfl) (by kernel_rfl) (by kernel_rfl) (fun _ _ _ h => h) (Or.inl ⟨by kernel_rfl, ?_⟩) (by assumption) ?_
    rotate_left 1
    focus (intro wq hSw; (try dsimp only at hSw); go_simp; (try with_reducible rfl); done)
    try simp only [List.getElem_toArray, List.getElem_cons_zero, List.getElem_cons_succ, Act.put, List.setIfInBounds_toArray, List.set_cons_zero, List.set_cons_succ]
    refine wpAnyH_take (i := 2) (oi := _) (v := ?_) rfl (by kernel_rfl) (by kernel_rfl) (by kernel_rfl) (fun _ _ _ h => h) (Or.inl ⟨by kernel_rfl, ?_⟩) (by assumption) ?_
    rotate_left 1
    focus (intro wq hSw; (try dsimp only at hSw); go_simp; (try with_reducible rfl); done)
    try simp only [List.getElem_toArray, List.getElem_cons_zero, List.getElem_cons_succ, Act.put, List.setIfInBounds_toArray, List.set_cons_zero, List.set_cons_succ]
    refine wpAnyH_ready (rs := [0, 3, 5]) (by kernel_rfl) (by simp) ?_
    refine AllReadyH.cons (o := _) rfl (fun K hK => ?_) (AllReadyH.cons (o := _) rfl (fun K hK => ?_) (AllReadyH.cons (o := _) rfl (fun K hK => ?_) AllReadyH.nil))
    · rw [if_pos (by kernel_rfl)]
      go_simp
      (go_at_call 107; (with_reducible refine (HST.out 4800 (by omega) (by omega) _ KC).mono ?_); rintro e zz ⟨rfl, rfl⟩)
      first | refine hK.out _ _ ?_ (fun hHeld => ?_) | (go_wp2_with fail; refine hK.out _ _ ?_ (fun hHeld => ?_))
      · trivial
      clear hK K
      try simp only [List.getElem_toArray, List.getElem_cons_zero, List.getElem_cons_succ, Act.put, List.setIfInBounds_toArray, List.set_cons_zero, List.set_cons_succ]
      refine wpAnyH_ready (rs := [3, 5]) (by kernel_rfl) (by simp) ?_
      refine AllReadyH.cons (o := _) rfl (fun K hK => ?_) (AllReadyH.cons (o := _) rfl (fun K hK => ?_) AllReadyH.nil)
      · rw [if_pos (by kernel_rfl)]
        go_simp
        obtain ⟨y3, hz⟩ : ∃ z, v0.alloc (.cells M 38) = z := ⟨_, rfl⟩
        obtain ⟨g, hbb⟩ : ∃ q, v0.heap.size = q := ⟨_, rfl⟩
        have HBg : Hid (v0.heap.size = g ∧ y3.heap.size = g + 1 ∧ y3.heap[g]? = some (.cells M 38 (0, 0))) := Lib.hid ⟨hbb, by rw [← hz, ← hbb]; simp, by rw [← hz, ← hbb, al_new]⟩
        have Qg : Hid (Below v0.heap.size v0 y3) := Lib.hid (by rw [← hz]; exact (Below.refl _ v0).alloc (Nat.le_refl _) _)
        have KC := KC.trans (Qg.out.mono KC.size)
        rw [hz, hbb]
        clear hz hbb
        first | refine hK.out _ _ ?_ (fun hHeld => ?_) | (go_wp2_with fail; refine hK.out _ _ ?_ (fun hHeld => ?_))
        · trivial
        clear hK K
        try simp only [List.getElem_toArray, List.getElem_cons_zero, List.getElem_cons_succ, Act.put, List.setIfInBounds_toArray, List.set_cons_zero, List.set_cons_succ]
        refine wpAnyH_take (i := 4) (oi := _) (v := ?_) rfl (by kernel_rfl) (by kernel_rfl) (by kernel_rfl) (fun _ _ _ h => h) (Or.inl ⟨by kernel_rfl, ?_⟩) (by assumption) ?_
        rotate_left 1
        focus (intro wq hSw; (try dsimp only at hSw); go_simp; (try with_reducible rfl); done)
        try simp only [List.getElem_toArray, List.getElem_cons_zero, List.getElem_cons_succ, Act.put, List.setIfInBounds_toArray, List.set_cons_zero, List.set_cons_succ]
        refine wpAnyH_ready (rs := [5]) (by kernel_rfl) (by simp) ?_
        refine AllReadyH.cons (o := _) rfl (fun K hK => ?_) AllReadyH.nil
        rw [if_pos (by kernel_rfl)]
        go_simp
        obtain ⟨y5, hz⟩ : ∃ z, y3.alloc (.cells #[.int .i64 0, .int .i64 0, .slice none 0 0, .slice none 0 0] 29) = z := ⟨_, rfl⟩
        obtain ⟨c, hbb⟩ : ∃ q, y3.heap.size = q := ⟨_, rfl⟩
        have HBc : Hid (y3.heap.size = c ∧ y5.heap.size = c + 1 ∧ y5.heap[c]? = some (.cells #[.int .i64 0, .int .i64 0, .slice none 0 0, .slice none 0 0] 29 (0, 0))) := Lib.hid ⟨hbb, by rw [← hz, ← hbb]; simp, by rw [← hz, ← hbb, al_new]⟩
        have Qc : Hid (Below y3.heap.size y3 y5) := Lib.hid (by rw [← hz]; exact (Below.refl _ y3).alloc (Nat.le_refl _) _)
        have KC := KC.trans (Qc.out.mono KC.size)
        rw [hz, hbb]
        clear hz hbb
        first | refine hK.out _ _ ?_ (fun hHeld => ?_) | (go_wp2_with fail; refine hK.out _ _ ?_ (fun hHeld => ?_))
        · trivial
        clear hK K
        try simp only [List.getElem_toArray, List.getElem_cons_zero, List.getElem_cons_succ, Act.put, List.setIfInBounds_toArray, List.set_cons_zero, List.set_cons_succ]
        have hg := HBg.out
        have hc := HBc.out
        have hz := HZA.out
        have hrw := HRW.out
        have hv : wa.heap.size = v0.heap.size := HVS.out
        have hg1 := (Qc.out.block g (by omega)).trans HBg.out.2.2
        have hc1 := HBc.out.2.2
        have hro1 := (Qc.out.block ro (by omega)).trans ((Qg.out.block ro (by omega)).trans HRV.out)
        have hne : ro ≠ c := by omega
        have hne2 : g ≠ c := by omega
        have hne3 : g ≠ ro := by omega
        have HMO : Hid (Mo n k w ((((y5.setCell ⟨c, 0, none⟩ (.int .i64 (dayS 4800))).setCell ⟨c, 1, none⟩ (.int .i64 (k : Int))).setCell ⟨c, 2, none⟩ (.slice (some ⟨g, 0, none⟩) k k)).setCell ⟨c, 3, none⟩ (.slice none 0 0)) ro c g 0) := Lib.hid (by
        have gf := grow_four y5 c (.int .i64 (dayS 4800)) (.int .i64 (k : Int)) (.slice (some ⟨g, 0, none⟩) k k) (.slice none 0 0)
        exact ⟨KC.grown gf KC.size (fun q e => by cases e; omega), blk_four hc1 _ _ _ _, (gf.block ro (by omega) (fun z => hne (Option.some.inj z))).trans hro1, ⟨M, (gf.block g (by omega) (fun z => hne2 (Option.some.inj z))).trans hg1, HMS.out, fun j hj => absurd hj (Nat.not_lt_zero _)⟩, by omega, by omega, by omega, hne, hne2, hne3⟩)
        have f0 := blk_free hc1 0
        have f1 := blk_free hc1 1
        have f2 := blk_free hc1 2
        have f3 := blk_free hc1 3
        have g0 := cell_blk hc1 0
        have g1 := cell_blk hc1 1
        have g2 := cell_blk hc1 2
        have g3 := cell_blk hc1 3
        clear hg hc hz hrw hv hg1 hc1 hro1 hne hne2 hne3
        refine wpAnyH_ready (rs := [6]) (by kernel_rfl) (by simp) ?_
        refine AllReadyH.cons (o := _) rfl (fun K hK => ?_) AllReadyH.nil
        rw [if_pos (by kernel_rfl)]
        go_simp
        first | refine hK.out _ _ ?_ (fun hHeld => ?_) | (go_wp2_with fail; refine hK.out _ _ ?_ (fun hHeld => ?_))
        · trivial
        clear hK K
        try simp only [List.getElem_toArray, List.getElem_cons_zero, List.getElem_cons_succ, Act.put, List.setIfInBounds_toArray, List.set_cons_zero, List.set_cons_succ]
        refine wpAnyH_done (by kernel_rfl) ?_ _
        clear f0 f1 f2 f3 g0 g1 g2 g3 hmk r1 r3
        go_wp2_with fail
        go_meet
        case rel => exact ⟨c, g, rfl, HMO⟩
      · rw [if_pos (by kernel_rfl)]
        go_simp
        obtain ⟨y5, hz⟩ : ∃ z, v0.alloc (.cells #[.int .i64 0, .int .i64 0, .slice none 0 0, .slice none 0 0] 29) = z := ⟨_, rfl⟩
        obtain ⟨c, hbb⟩ : ∃ q, v0.heap.size = q := ⟨_, rfl⟩
        have HBc : Hid (v0.heap.size = c ∧ y5.heap.size = c + 1 ∧ y5.heap[c]? = some (.cells #[.int .i64 0, .int .i64 0, .slice none 0 0, .slice none 0 0] 29 (0, 0))) := Lib.hid ⟨hbb, by rw [← hz, ← hbb]; simp, by rw [← hz, ← hbb, al_new]⟩
        have Qc : Hid (Below v0.heap.size v0 y5) := Lib.hid (by rw [← hz]; exact (Below.refl _ v0).alloc (Nat.le_refl _) _)
        have KC := KC.trans (Qc.out.mono KC.size)
        rw [hz, hbb]
        clear hz hbb
        first | refine hK.out _ _ ?_ (fun hHeld => ?_) | (go_wp2_with fail; refine hK.out _ _ ?_ (fun hHeld => ?_))
        · trivial
        clear hK K
        try simp only [List.getElem_toArray, List.getElem_cons_zero, List.getElem_cons_succ, Act.put, List.setIfInBounds_toArray, List.set_cons_zero, List.set_cons_succ]
        refine wpAnyH_ready (rs := [3]) (by kernel_rfl) (by simp) ?_
        refine AllReadyH.cons (o := _) rfl (fun K hK => ?_) AllReadyH.nil
        rw [if_pos (by kernel_rfl)]
        go_simp
        obtain ⟨y3, hz⟩ : ∃ z, y5.alloc (.cells M 38) = z := ⟨_, rfl⟩
        obtain ⟨g, hbb⟩ : ∃ q, y5.heap.size = q := ⟨_, rfl⟩
        have HBg : Hid (y5.heap.size = g ∧ y3.heap.size = g + 1 ∧ y3.heap[g]? = some (.cells M 38 (0, 0))) := Lib.hid ⟨hbb, by rw [← hz, ← hbb]; simp, by rw [← hz, ← hbb, al_new]⟩
        have Qg : Hid (Below y5.heap.size y5 y3) := Lib.hid (by rw [← hz]; exact (Below.refl _ y5).alloc (Nat.le_refl _) _)
        have KC := KC.trans (Qg.out.mono KC.size)
        rw [hz, hbb]
        clear hz hbb
        first | refine hK.out _ _ ?_ (fun hHeld => ?_) | (go_wp2_with fail; refine hK.out _ _ ?_ (fun hHeld => ?_))
        · trivial
        clear hK K
        try simp only [List.getElem_toArray, List.getElem_cons_zero, List.getElem_cons_succ, Act.put, List.setIfInBounds_toArray, List.set_cons_zero, List.set_cons_succ]
        refine wpAnyH_take (i := 4) (oi := _) (v := ?_) rfl (by kernel_rfl) (by kernel_rfl) (by kernel_rfl) (fun _ _ _ h => h) (Or.inl ⟨by kernel_rfl, ?_⟩) (by assumption) ?_
        rotate_left 1
        focus (intro wq hSw; (try dsimp only at hSw); go_simp; (try with_reducible rfl); done)
        try simp only [List.getElem_toArray, List.getElem_cons_zero, List.getElem_cons_succ, Act.put, List.setIfInBounds_toArray, List.set_cons_zero, List.set_cons_succ]
        have hg := HBg.out
        have hc := HBc.out
        have hz := HZA.out
        have hrw := HRW.out
        have hv : wa.heap.size = v0.heap.size := HVS.out
        have hc1 := (Qg.out.block c (by omega)).trans HBc.out.2.2
        have hg1 := HBg.out.2.2
        have hro1 := (Qg.out.block ro (by omega)).trans ((Qc.out.block ro (by omega)).trans HRV.out)
        have hne : ro ≠ c := by omega
        have hne2 : g ≠ c := by omega
        have hne3 : g ≠ ro := by omega
        have HMO : Hid (Mo n k w ((((y3.setCell ⟨c, 0, none⟩ (.int .i64 (dayS 4800))).setCell ⟨c, 1, none⟩ (.int .i64 (k : Int))).setCell ⟨c, 2, none⟩ (.slice (some ⟨g, 0, none⟩) k k)).setCell ⟨c, 3, none⟩ (.slice none 0 0)) ro c g 0) := Lib.hid (by
        have gf := grow_four y3 c (.int .i64 (dayS 4800)) (.int .i64 (k : Int)) (.slice (some ⟨g, 0, none⟩) k k) (.slice none 0 0)
        exact ⟨KC.grown gf KC.size (fun q e => by cases e; omega), blk_four hc1 _ _ _ _, (gf.block ro (by omega) (fun z => hne (Option.some.inj z))).trans hro1, ⟨M, (gf.block g (by omega) (fun z => hne2 (Option.some.inj z))).trans hg1, HMS.out, fun j hj => absurd hj (Nat.not_lt_zero _)⟩, by omega, by omega, by omega, hne, hne2, hne3⟩)
        have f0 := blk_free hc1 0
        have f1 := blk_free hc1 1
        have f2 := blk_free hc1 2
        have f3 := blk_free hc1 3
        have g0 := cell_blk hc1 0
        have g1 := cell_blk hc1 1
        have g2 := cell_blk hc1 2
        have g3 := cell_blk hc1 3
        clear hg hc hz hrw hv hg1 hc1 hro1 hne hne2 hne3
        refine wpAnyH_ready (rs := [6]) (by kernel_rfl) (by simp) ?_
        refine AllReadyH.cons (o := _) rfl (fun K hK => ?_) AllReadyH.nil
        rw [if_pos (by kernel_rfl)]
        go_simp
        first | refine hK.out _ _ ?_ (fun hHeld => ?_) | (go_wp2_with fail; refine hK.out _ _ ?_ (fun hHeld => ?_))
        · trivial
        clear hK K
        try simp only [List.getElem_toArray, List.getElem_cons_zero, List.getElem_cons_succ, Act.put, List.setIfInBounds_toArray, List.set_cons_zero, List.set_cons_succ]
        refine wpAnyH_done (by kernel_rfl) ?_ _
        clear f0 f1 f2 f3 g0 g1 g2 g3 hmk r1 r3
        go_wp2_with fail
        go_meet
        case rel => exact ⟨c, g, rfl, HMO⟩
    · rw [if_pos (by kernel_rfl)]
      go_simp
      obtain ⟨y3, hz⟩ : ∃ z, v0.alloc (.cells M 38) = z := ⟨_, rfl⟩
      obtain ⟨g, hbb⟩ : ∃ q, v0.heap.size = q := ⟨_, rfl⟩
      have HBg : Hid (v0.heap.size = g ∧ y3.heap.size = g + 1 ∧ y3.heap[g]? = some (.cells M 38 (0, 0))) := Lib.hid ⟨hbb, by rw [← hz, ← hbb]; simp, by rw [← hz, ← hbb, al_new]⟩
      have Qg : Hid (Below v0.heap.size v0 y3) := Lib.hid (by rw [← hz]; exact (Below.refl _ v0).alloc (Nat.le_refl _) _)
      have KC := KC.trans (Qg.out.mono KC.size)
      rw [hz, hbb]
      clear hz hbb
      first | refine hK.out _ _ ?_ (fun hHeld => ?_) | (go_wp2_with fail; refine hK.out _ _ ?_ (fun hHeld => ?_))
      · trivial
      clear hK K
      try simp only [List.getElem_toArray, List.getElem_cons_zero, List.getElem_cons_succ, Act.put, List.setIfInBounds_toArray, List.set_cons_zero, List.set_cons_succ]
      refine wpAnyH_ready (rs := [0, 5]) (by kernel_rfl) (by simp) ?_
      refine AllReadyH.cons (o := _) rfl (fun K hK => ?_) (AllReadyH.cons (o := _) rfl (fun K hK => ?_) AllReadyH.nil)
      · rw [if_pos (by kernel_rfl)]
        go_simp
        (go_at_call 107; (with_reducible refine (HST.out 4800 (by omega) (by omega) _ KC).mono ?_); rintro e zz ⟨rfl, rfl⟩)
        first | refine hK.out _ _ ?_ (fun hHeld => ?_) | (go_wp2_with fail; refine hK.out _ _ ?_ (fun hHeld => ?_))
        · trivial
        clear hK K
        try simp only [List.getElem_toArray, List.getElem_cons_zero, List.getElem_cons_succ, Act.put, List.setIfInBounds_toArray, List.set_cons_zero, List.set_cons_succ]
        refine wpAnyH_take (i := 4) (oi := _) (v := ?_) rfl (by kernel_rfl) (by kernel_rfl) (by kernel_rfl) (fun _ _ _ h => h) (Or.inl ⟨by kernel_rfl, ?_⟩) (by assumption) ?_
        rotate_left 1
        focus (intro wq hSw; (try dsimp only at hSw); go_simp; (try with_reducible rfl); done)
        try simp only [List.getElem_toArray, List.getElem_cons_zero, List.getElem_cons_succ, Act.put, List.setIfInBounds_toArray, List.set_cons_zero, List.set_cons_succ]
        refine wpAnyH_ready (rs := [5]) (by kernel_rfl) (by simp) ?_
        refine AllReadyH.cons (o := _) rfl (fun K hK => ?_) AllReadyH.nil
        rw [if_pos (by kernel_rfl)]
        go_simp
        obtain ⟨y5, hz⟩ : ∃ z, y3.alloc (.cells #[.int .i64 0, .int .i64 0, .slice none 0 0, .slice none 0 0] 29) = z := ⟨_, rfl⟩
        obtain ⟨c, hbb⟩ : ∃ q, y3.heap.size = q := ⟨_, rfl⟩
        have HBc : Hid (y3.heap.size = c ∧ y5.heap.size = c + 1 ∧ y5.heap[c]? = some (.cells #[.int .i64 0, .int .i64 0, .slice none 0 0, .slice none 0 0] 29 (0, 0))) := Lib.hid ⟨hbb, by rw [← hz, ← hbb]; simp, by rw [← hz, ← hbb, al_new]⟩
        have Qc : Hid (Below y3.heap.size y3 y5) := Lib.hid (by rw [← hz]; exact (Below.refl _ y3).alloc (Nat.le_refl _) _)
        have KC := KC.trans (Qc.out.mono KC.size)
        rw [hz, hbb]
        clear hz hbb
        first | refine hK.out _ _ ?_ (fun hHeld => ?_) | (go_wp2_with fail; refine hK.out _ _ ?_ (fun hHeld => ?_))
        · trivial
        clear hK K
        try simp only [List.getElem_toArray, List.getElem_cons_zero, List.getElem_cons_succ, Act.put, List.setIfInBounds_toArray, List.set_cons_zero, List.set_cons_succ]
        have hg := HBg.out
        have hc := HBc.out
        have hz := HZA.out
        have hrw := HRW.out
        have hv : wa.heap.size = v0.heap.size := HVS.out
        have hg1 := (Qc.out.block g (by omega)).trans HBg.out.2.2
        have hc1 := HBc.out.2.2
        have hro1 := (Qc.out.block ro (by omega)).trans ((Qg.out.block ro (by omega)).trans HRV.out)
        have hne : ro ≠ c := by omega
        have hne2 : g ≠ c := by omega
        have hne3 : g ≠ ro := by omega
        have HMO : Hid (Mo n k w ((((y5.setCell ⟨c, 0, none⟩ (.int .i64 (dayS 4800))).setCell ⟨c, 1, none⟩ (.int .i64 (k : Int))).setCell ⟨c, 2, none⟩ (.slice (some ⟨g, 0, none⟩) k k)).setCell ⟨c, 3, none⟩ (.slice none 0 0)) ro c g 0) := Lib.hid (by
        have gf := grow_four y5 c (.int .i64 (dayS 4800)) (.int .i64 (k : Int)) (.slice (some ⟨g, 0, none⟩) k k) (.slice none 0 0)
        exact ⟨KC.grown gf KC.size (fun q e => by cases e; omega), blk_four hc1 _ _ _ _, (gf.block ro (by omega) (fun z => hne (Option.some.inj z))).trans hro1, ⟨M, (gf.block g (by omega) (fun z => hne2 (Option.some.inj z))).trans hg1, HMS.out, fun j hj => absurd hj (Nat.not_lt_zero _)⟩, by omega, by omega, by omega, hne, hne2, hne3⟩)
        have f0 := blk_free hc1 0
        have f1 := blk_free hc1 1
        have f2 := blk_free hc1 2
        have f3 := blk_free hc1 3
        have g0 := cell_blk hc1 0
        have g1 := cell_blk hc1 1
        have g2 := cell_blk hc1 2
        have g3 := cell_blk hc1 3
        clear hg hc hz hrw hv hg1 hc1 hro1 hne hne2 hne3
        refine wpAnyH_ready (rs := [6]) (by kernel_rfl) (by simp) ?_
        refine AllReadyH.cons (o := _) rfl (fun K hK => ?_) AllReadyH.nil
        rw [if_pos (by kernel_rfl)]
        go_simp
        first | refine hK.out _ _ ?_ (fun hHeld => ?_) | (go_wp2_with fail; refine hK.out _ _ ?_ (fun hHeld => ?_))
        · trivial
        clear hK K
        try simp only [List.getElem_toArray, List.getElem_cons_zero, List.getElem_cons_succ, Act.put, List.setIfInBounds_toArray, List.set_cons_zero, List.set_cons_succ]
        refine wpAnyH_done (by kernel_rfl) ?_ _
        clear f0 f1 f2 f3 g0 g1 g2 g3 hmk r1 r3
        go_wp2_with fail
        go_meet
        case rel => exact ⟨c, g, rfl, HMO⟩
      · rw [if_pos (by kernel_rfl)]
        go_simp
        obtain ⟨y5, hz⟩ : ∃ z, y3.alloc (.cells #[.int .i64 0, .int .i64 0, .slice none 0 0, .slice none 0 0] 29) = z := ⟨_, rfl⟩
        obtain ⟨c, hbb⟩ : ∃ q, y3.heap.size = q := ⟨_, rfl⟩
        have HBc : Hid (y3.heap.size = c ∧ y5.heap.size = c + 1 ∧ y5.heap[c]? = some (.cells #[.int .i64 0, .int .i64 0, .slice none 0 0, .slice none 0 0] 29 (0, 0))) := Lib.hid ⟨hbb, by rw [← hz, ← hbb]; simp, by rw [← hz, ← hbb, al_new]⟩
        have Qc : Hid (Below y3.heap.size y3 y5) := Lib.hid (by rw [← hz]; exact (Below.refl _ y3).alloc (Nat.le_refl _) _)
        have KC := KC.trans (Qc.out.mono KC.size)
        rw [hz, hbb]
        clear hz hbb
        first | refine hK.out _ _ ?_ (fun hHeld => ?_) | (go_wp2_with fail; refine hK.out _ _ ?_ (fun hHeld => ?_))
        · trivial
        clear hK K
        try simp only [List.getElem_toArray, List.getElem_cons_zero, List.getElem_cons_succ, Act.put, List.setIfInBounds_toArray, List.set_cons_zero, List.set_cons_succ]
        refine wpAnyH_ready (rs := [0]) (by kernel_rfl) (by simp) ?_
        refine AllReadyH.cons (o := _) rfl (fun K hK => ?_) AllReadyH.nil
        rw [if_pos (by kernel_rfl)]
        go_simp
        (go_at_call 107; (with_reducible refine (HST.out 4800 (by omega) (by omega) _ KC).mono ?_); rintro e zz ⟨rfl, rfl⟩)
        first | refine hK.out _ _ ?_ (fun hHeld => ?_) | (go_wp2_with fail; refine hK.out _ _ ?_ (fun hHeld => ?_))
        · trivial
        clear hK K
        try simp only [List.getElem_toArray, List.getElem_cons_zero, List.getElem_cons_succ, Act.put, List.setIfInBounds_toArray, List.set_cons_zero, List.set_cons_succ]
        refine wpAnyH_take (i := 4) (oi := _) (v := ?_) rfl (by kernel_rfl) (by kernel_rfl) (by kernel_rfl) (fun _ _ _ h => h) (Or.inl ⟨by kernel_rfl, ?_⟩) (by assumption) ?_
        rotate_left 1
        focus (intro wq hSw; (try dsimp only at hSw); go_simp; (try with_reducible rfl); done)
        try simp only [List.getElem_toArray, List.getElem_cons_zero, List.getElem_cons_succ, Act.put, List.setIfInBounds_toArray, List.set_cons_zero, List.set_cons_succ]
        have hg := HBg.out
        have hc := HBc.out
        have hz := HZA.out
        have hrw := HRW.out
        have hv : wa.heap.size = v0.heap.size := HVS.out
        have hg1 := (Qc.out.block g (by omega)).trans HBg.out.2.2
        have hc1 := HBc.out.2.2
        have hro1 := (Qc.out.block ro (by omega)).trans ((Qg.out.block ro (by omega)).trans HRV.out)
        have hne : ro ≠ c := by omega
        have hne2 : g ≠ c := by omega
        have hne3 : g ≠ ro := by omega
        have HMO : Hid (Mo n k w ((((y5.setCell ⟨c, 0, none⟩ (.int .i64 (dayS 4800))).setCell ⟨c, 1, none⟩ (.int .i64 (k : Int))).setCell ⟨c, 2, none⟩ (.slice (some ⟨g, 0, none⟩) k k)).setCell ⟨c, 3, none⟩ (.slice none 0 0)) ro c g 0) := Lib.hid (by
        have gf := grow_four y5 c (.int .i64 (dayS 4800)) (.int .i64 (k : Int)) (.slice (some ⟨g, 0, none⟩) k k) (.slice none 0 0)
        exact ⟨KC.grown gf KC.size (fun q e => by cases e; omega), blk_four hc1 _ _ _ _, (gf.block ro (by omega) (fun z => hne (Option.some.inj z))).trans hro1, ⟨M, (gf.block g (by omega) (fun z => hne2 (Option.some.inj z))).trans hg1, HMS.out, fun j hj => absurd hj (Nat.not_lt_zero _)⟩, by omega, by omega, by omega, hne, hne2, hne3⟩)
        have f0 := blk_free hc1 0
        have f1 := blk_free hc1 1
        have f2 := blk_free hc1 2
        have f3 := blk_free hc1 3
        have g0 := cell_blk hc1 0
        have g1 := cell_blk hc1 1
        have g2 := cell_blk hc1 2
        have g3 := cell_blk hc1 3
        clear hg hc hz hrw hv hg1 hc1 hro1 hne hne2 hne3
        refine wpAnyH_ready (rs := [6]) (by kernel_rfl) (by simp) ?_
        refine AllReadyH.cons (o := _) rfl (fun K hK => ?_) AllReadyH.nil
        rw [if_pos (by kernel_rfl)]
        go_simp
        first | refine hK.out _ _ ?_ (fun hHeld => ?_) | (go_wp2_with fail; refine hK.out _ _ ?_ (fun hHeld => ?_))
        · trivial
        clear hK K
        try simp only [List.getElem_toArray, List.getElem_cons_zero, List.getElem_cons_succ, Act.put, List.setIfInBounds_toArray, List.set_cons_zero, List.set_cons_succ]
        refine wpAnyH_done (by kernel_rfl) ?_ _
        clear f0 f1 f2 f3 g0 g1 g2 g3 hmk r1 r3
        go_wp2_with fail
        go_meet
        case rel => exact ⟨c, g, rfl, HMO⟩
    · rw [if_pos (by kernel_rfl)]
      go_simp
      obtain ⟨y5, hz⟩ : ∃ z, v0.alloc (.cells #[.int .i64 0, .int .i64 0, .slice none 0 0, .slice none 0 0] 29) = z := ⟨_, rfl⟩
      obtain ⟨c, hbb⟩ : ∃ q, v0.heap.size = q := ⟨_, rfl⟩
      have HBc : Hid (v0.heap.size = c ∧ y5.heap.size = c + 1 ∧ y5.heap[c]? = some (.cells #[.int .i64 0, .int .i64 0, .slice none 0 0, .slice none 0 0] 29 (0, 0))) := Lib.hid ⟨hbb, by rw [← hz, ← hbb]; simp, by rw [← hz, ← hbb, al_new]⟩
      have Qc : Hid (Below v0.heap.size v0 y5) := Lib.hid (by rw [← hz]; exact (Below.refl _ v0).alloc (Nat.le_refl _) _)
      have KC := KC.trans (Qc.out.mono KC.size)
      rw [hz, hbb]
      clear hz hbb
      first | refine hK.out _ _ ?_ (fun hHeld => ?_) | (go_wp2_with fail; refine hK.out _ _ ?_ (fun hHeld => ?_))
      · trivial
      clear hK K
      try simp only [List.getElem_toArray, List.getElem_cons_zero, List.getElem_cons_succ, Act.put, List.setIfInBounds_toArray, List.set_cons_zero, List.set_cons_succ]
      refine wpAnyH_ready (rs := [0, 3]) (by kernel_rfl) (by simp) ?_
      refine AllReadyH.cons (o := _) rfl (fun K hK => ?_) (AllReadyH.cons (o := _) rfl (fun K hK => ?_) AllReadyH.nil)
      · rw [if_pos (by kernel_rfl)]
        go_simp
        (go_at_call 107; (with_reducible refine (HST.out 4800 (by omega) (by omega) _ KC).mono ?_); rintro e zz ⟨rfl, rfl⟩)
        first | refine hK.out _ _ ?_ (fun hHeld => ?_) | (go_wp2_with fail; refine hK.out _ _ ?_ (fun hHeld => ?_))
        · trivial
        clear hK K
        try simp only [List.getElem_toArray, List.getElem_cons_zero, List.getElem_cons_succ, Act.put, List.setIfInBounds_toArray, List.set_cons_zero, List.set_cons_succ]
        refine wpAnyH_ready (rs := [3]) (by kernel_rfl) (by simp) ?_
        refine AllReadyH.cons (o := _) rfl (fun K hK => ?_) AllReadyH.nil
        rw [if_pos (by kernel_rfl)]
        go_simp
        obtain ⟨y3, hz⟩ : ∃ z, y5.alloc (.cells M 38) = z := ⟨_, rfl⟩
        obtain ⟨g, hbb⟩ : ∃ q, y5.heap.size = q := ⟨_, rfl⟩
        have HBg : Hid (y5.heap.size = g ∧ y3.heap.size = g + 1 ∧ y3.heap[g]? = some (.cells M 38 (0, 0))) := Lib.hid ⟨hbb, by rw [← hz, ← hbb]; simp, by rw [← hz, ← hbb, al_new]⟩
        have Qg : Hid (Below y5.heap.size y5 y3) := Lib.hid (by rw [← hz]; exact (Below.refl _ y5).alloc (Nat.le_refl _) _)
        have KC := KC.trans (Qg.out.mono KC.size)
        rw [hz, hbb]
        clear hz hbb
        first | refine hK.out _ _ ?_ (fun hHeld => ?_) | (go_wp2_with fail; refine hK.out _ _ ?_ (fun hHeld => ?_))
        · trivial
        clear hK K
        try simp only [List.getElem_toArray, List.getElem_cons_zero, List.getElem_cons_succ, Act.put, List.setIfInBounds_toArray, List.set_cons_zero, List.set_cons_succ]
        refine wpAnyH_take (i := 4) (oi := _) (v := ?_) rfl (by kernel_rfl) (by kernel_rfl) (by kernel_rfl) (fun _ _ _ h => h) (Or.inl ⟨by kernel_rfl, ?_⟩) (by assumption) ?_
        rotate_left 1
        focus (intro wq hSw; (try dsimp only at hSw); go_simp; (try with_reducible rfl); done)
        try simp only [List.getElem_toArray, List.getElem_cons_zero, List.getElem_cons_succ, Act.put, List.setIfInBounds_toArray, List.set_cons_zero, List.set_cons_succ]
        have hg := HBg.out
        have hc := HBc.out
        have hz := HZA.out
        have hrw := HRW.out
        have hv : wa.heap.size = v0.heap.size := HVS.out
        have hc1 := (Qg.out.block c (by omega)).trans HBc.out.2.2
        have hg1 := HBg.out.2.2
        have hro1 := (Qg.out.block ro (by omega)).trans ((Qc.out.block ro (by omega)).trans HRV.out)
        have hne : ro ≠ c := by omega
        have hne2 : g ≠ c := by omega
        have hne3 : g ≠ ro := by omega
        have HMO : Hid (Mo n k w ((((y3.setCell ⟨c, 0, none⟩ (.int .i64 (dayS 4800))).setCell ⟨c, 1, none⟩ (.int .i64 (k : Int))).setCell ⟨c, 2, none⟩ (.slice (some ⟨g, 0, none⟩) k k)).setCell ⟨c, 3, none⟩ (.slice none 0 0)) ro c g 0) := Lib.hid (by
        have gf := grow_four y3 c (.int .i64 (dayS 4800)) (.int .i64 (k : Int)) (.slice (some ⟨g, 0, none⟩) k k) (.slice none 0 0)
        exact ⟨KC.grown gf KC.size (fun q e => by cases e; omega), blk_four hc1 _ _ _ _, (gf.block ro (by omega) (fun z => hne (Option.some.inj z))).trans hro1, ⟨M, (gf.block g (by omega) (fun z => hne2 (Option.some.inj z))).trans hg1, HMS.out, fun j hj => absurd hj (Nat.not_lt_zero _)⟩, by omega, by omega, by omega, hne, hne2, hne3⟩)
        have f0 := blk_free hc1 0
        have f1 := blk_free hc1 1
        have f2 := blk_free hc1 2
        have f3 := blk_free hc1 3
        have g0 := cell_blk hc1 0
        have g1 := cell_blk hc1 1
        have g2 := cell_blk hc1 2
        have g3 := cell_blk hc1 3
        clear hg hc hz hrw hv hg1 hc1 hro1 hne hne2 hne3
        refine wpAnyH_ready (rs := [6]) (by kernel_rfl) (by simp) ?_
        refine AllReadyH.cons (o := _) rfl (fun K hK => ?_) AllReadyH.nil
        rw [if_pos (by kernel_rfl)]
        go_simp
        first | refine hK.out _ _ ?_ (fun hHeld => ?_) | (go_wp2_with fail; refine hK.out _ _ ?_ (fun hHeld => ?_))
        · trivial
        clear hK K
        try simp only [List.getElem_toArray, List.getElem_cons_zero, List.getElem_cons_succ, Act.put, List.setIfInBounds_toArray, List.set_cons_zero, List.set_cons_succ]
        refine wpAnyH_done (by kernel_rfl) ?_ _
        clear f0 f1 f2 f3 g0 g1 g2 g3 hmk r1 r3
        go_wp2_with fail
        go_meet
        case rel => exact ⟨c, g, rfl, HMO⟩
      · rw [if_pos (by kernel_rfl)]
        go_simp
        obtain ⟨y3, hz⟩ : ∃ z, y5.alloc (.cells M 38) = z := ⟨_, rfl⟩
        obtain ⟨g, hbb⟩ : ∃ q, y5.heap.size = q := ⟨_, rfl⟩
        have HBg : Hid (y5.heap.size = g ∧ y3.heap.size = g + 1 ∧ y3.heap[g]? = some (.cells M 38 (0, 0))) := Lib.hid ⟨hbb, by rw [← hz, ← hbb]; simp, by rw [← hz, ← hbb, al_new]⟩
        have Qg : Hid (Below y5.heap.size y5 y3) := Lib.hid (by rw [← hz]; exact (Below.refl _ y5).alloc (Nat.le_refl _) _)
        have KC := KC.trans (Qg.out.mono KC.size)
        rw [hz, hbb]
        clear hz hbb
        first | refine hK.out _ _ ?_ (fun hHeld => ?_) | (go_wp2_with fail; refine hK.out _ _ ?_ (fun hHeld => ?_))
        · trivial
        clear hK K
        try simp only [List.getElem_toArray, List.getElem_cons_zero, List.getElem_cons_succ, Act.put, List.setIfInBounds_toArray, List.set_cons_zero, List.set_cons_succ]
        refine wpAnyH_ready (rs := [0]) (by kernel_rfl) (by simp) ?_
        refine AllReadyH.cons (o := _) rfl (fun K hK => ?_) AllReadyH.nil
        rw [if_pos (by kernel_rfl)]
        go_simp
        (go_at_call 107; (with_reducible refine (HST.out 4800 (by omega) (by omega) _ KC).mono ?_); rintro e zz ⟨rfl, rfl⟩)
        first | refine hK.out _ _ ?_ (fun hHeld => ?_) | (go_wp2_with fail; refine hK.out _ _ ?_ (fun hHeld => ?_))
        · trivial
        clear hK K
        try simp only [List.getElem_toArray, List.getElem_cons_zero, List.getElem_cons_succ, Act.put, List.setIfInBounds_toArray, List.set_cons_zero, List.set_cons_succ]
        refine wpAnyH_take (i := 4) (oi := _) (v := ?_) rfl (by kernel_rfl) (by kernel_rfl) (by kernel_rfl) (fun _ _ _ h => h) (Or.inl ⟨by kernel_rfl, ?_⟩) (by assumption) ?_
        rotate_left 1
        focus (intro wq hSw; (try dsimp only at hSw); go_simp; (try with_reducible rfl); done)
        try simp only [List.getElem_toArray, List.getElem_cons_zero, List.getElem_cons_succ, Act.put, List.setIfInBounds_toArray, List.set_cons_zero, List.set_cons_succ]
        have hg := HBg.out
        have hc := HBc.out
        have hz := HZA.out
        have hrw := HRW.out
        have hv : wa.heap.size = v0.heap.size := HVS.out
        have hc1 := (Qg.out.block c (by omega)).trans HBc.out.2.2
        have hg1 := HBg.out.2.2
        have hro1 := (Qg.out.block ro (by omega)).trans ((Qc.out.block ro (by omega)).trans HRV.out)
        have hne : ro ≠ c := by omega
        have hne2 : g ≠ c := by omega
        have hne3 : g ≠ ro := by omega
        have HMO : Hid (Mo n k w ((((y3.setCell ⟨c, 0, none⟩ (.int .i64 (dayS 4800))).setCell ⟨c, 1, none⟩ (.int .i64 (k : Int))).setCell ⟨c, 2, none⟩ (.slice (some ⟨g, 0, none⟩) k k)).setCell ⟨c, 3, none⟩ (.slice none 0 0)) ro c g 0) := Lib.hid (by
        have gf := grow_four y3 c (.int .i64 (dayS 4800)) (.int .i64 (k : Int)) (.slice (some ⟨g, 0, none⟩) k k) (.slice none 0 0)
        exact ⟨KC.grown gf KC.size (fun q e => by cases e; omega), blk_four hc1 _ _ _ _, (gf.block ro (by omega) (fun z => hne (Option.some.inj z))).trans hro1, ⟨M, (gf.block g (by omega) (fun z => hne2 (Option.some.inj z))).trans hg1, HMS.out, fun j hj => absurd hj (Nat.not_lt_zero _)⟩, by omega, by omega, by omega, hne, hne2, hne3⟩)
        have f0 := blk_free hc1 0
        have f1 := blk_free hc1 1
        have f2 := blk_free hc1 2
        have f3 := blk_free hc1 3
        have g0 := cell_blk hc1 0
        have g1 := cell_blk hc1 1
        have g2 := cell_blk hc1 2
        have g3 := cell_blk hc1 3
        clear hg hc hz hrw hv hg1 hc1 hro1 hne hne2 hne3
        refine wpAnyH_ready (rs := [6]) (by kernel_rfl) (by simp) ?_
        refine AllReadyH.cons (o := _) rfl (fun K hK => ?_) AllReadyH.nil
        rw [if_pos (by kernel_rfl)]
        go_simp
        first | refine hK.out _ _ ?_ (fun hHeld => ?_) | (go_wp2_with fail; refine hK.out _ _ ?_ (fun hHeld => ?_))
        · trivial
        clear hK K
        try simp only [List.getElem_toArray, List.getElem_cons_zero, List.getElem_cons_succ, Act.put, List.setIfInBounds_toArray, List.set_cons_zero, List.set_cons_succ]
        refine wpAnyH_done (by kernel_rfl) ?_ _
        clear f0 f1 f2 f3 g0 g1 g2 g3 hmk r1 r3
        go_wp2_with fail
        go_meet
        case rel => exact ⟨c, g, rfl, HMO⟩
  case rest =>
    obtain ⟨c, g, rfl, HA⟩ := hcut
    clear hmk HRO HBA HZA HMS r1 r3
    go_wp2
    go_loopw [5, 14] (fun s5 ii wr => ∃ i : Nat, i ≤ k ∧ ii = .int .i64 i ∧ Hid (Mo n k w wr ro c g i)) (fun s5 ii _ => k - (intOf ii).toNat)
    case atStart => exact ⟨0, Nat.zero_le _, rfl, HA⟩
    case round =>
      obtain ⟨i, hi, rfl, HA⟩ := hrel
      have i0 : (0 : Int) ≤ (i : Int) := by omega
      by_cases ilt : i < k
      · have i1 : (i : Int) < (k : Int) := by omega
        have hle : i * n + n ≤ 4800 := by
          have := Nat.mul_le_mul_left n (show i + 1 ≤ k by omega)
          rw [Nat.mul_comm n (i + 1), HNK.out] at this
          rw [Nat.add_mul] at this
          omega
        have hz1 : ((i * n : Nat) : Int) = (i : Int) * (n : Int) := Int.natCast_mul i n
        have hz2 : ((i * n + n : Nat) : Int) = (i : Int) * (n : Int) + (n : Int) := by rw [Int.natCast_add, Int.natCast_mul]
        have hz0 : 0 ≤ (i : Int) * (n : Int) := by rw [← hz1]; omega
        have hz3 : (i : Int) * (n : Int) + (n : Int) ≤ 4800 := by rw [← hz2]; omega
        have m1 : IntKind.i64.wrap ((i : Int) * (n : Int)) = (i : Int) * (n : Int) := IntWalk.i64_in _ (by omega)
        have m2 : IntKind.i64.wrap ((i : Int) * (n : Int) + (n : Int)) = (i : Int) * (n : Int) + (n : Int) := IntWalk.i64_in _ (by omega)
        have S1 := Lib.hid (HST.out ((i : Int) * (n : Int)) (by omega) (by omega))
        have S2 := Lib.hid (HST.out ((i : Int) * (n : Int) + (n : Int)) (by omega) (by omega))
        have HD := Lib.hid (dayS_bd (m := (i : Int) * (n : Int) + (n : Int)) (by omega) (by omega))
        obtain ⟨A, hA⟩ : ∃ A, dayS ((i : Int) * (n : Int)) = A := ⟨_, rfl⟩
        obtain ⟨B, hB⟩ : ∃ B, dayS ((i : Int) * (n : Int) + (n : Int)) = B := ⟨_, rfl⟩
        have HAA : Hid (dayS ((i * n : Nat) : Int) = A) := Lib.hid (by rw [hz1]; exact hA)
        have HBB : Hid (dayS ((i * n + n : Nat) : Int) = B) := Lib.hid (by rw [hz2]; exact hB)
        rw [hA] at S1
        rw [hB] at S2 HD
        obtain ⟨d1, d2⟩ := HD.out
        have m3 : IntKind.i64.wrap (B - 1) = B - 1 := IntWalk.i64_in _ (by omega)
        clear hA hB hle hz0 hz1 hz2 hz3
        go_upto_region 6 with fail
        have HV := Lib.hid (HA.out.keep ((Below.refl wr.heap.size wr).drew))
        have KC := Lib.hid HV.out.bw
        refine wp_region_held_drew (S := (fun W => W.cell? ⟨c, 2, none⟩ = some (.slice (some ⟨g, 0, none⟩) k k))) (by kernel_rfl) ?_ (fun hHeld => ?_)
        · exact cell_blk HV.out.box 2
        generalize hv0 : wr.drew = v0 at hHeld HV KC ⊢
        clear hv0
        refine wpAnyH_take (i := 0) (oi := _) (v := ?_) rfl (by kernel_rfl) (by kernel_rfl) (by kernel_rfl) (fun _ _ _ h => h) (Or.inl ⟨by kernel_rfl, ?_⟩) (by assumption) ?_
        rotate_left 1
        focus (intro wq hSw; (try dsimp only at hSw); go_simp; (try with_reducible rfl); done)
        try simp only [List.getElem_toArray, List.getElem_cons_zero, List.getElem_cons_succ, Act.put, List.setIfInBounds_toArray, List.set_cons_zero, List.set_cons_succ]
        refine wpAnyH_take (i := 1) (oi := _) (v := ?_) rfl (by kernel_rfl) (by kernel_rfl) (by kernel_rfl) (fun _ _ _ h => h) (Or.inl ⟨by kernel_rfl, ?_⟩) (by assumption) ?_
        rotate_left 1
        focus (intro wq hSw; (try dsimp only at hSw); go_simp; (try with_reducible rfl); done)
        try simp only [List.getElem_toArray, List.getElem_cons_zero, List.getElem_cons_succ, Act.put, List.setIfInBounds_toArray, List.set_cons_zero, List.set_cons_succ]
        refine wpAnyH_take (i := 2) (oi := _) (v := ?_) rfl (by kernel_rfl) (by kernel_rfl) (by kernel_rfl) (fun _ _ _ h => h) (Or.inl ⟨by kernel_rfl, ?_⟩) (by assumption) ?_
        rotate_left 1
        focus (intro wq hSw; (try dsimp only at hSw); go_simp; (try with_reducible rfl); done)
        try simp only [List.getElem_toArray, List.getElem_cons_zero, List.getElem_cons_succ, Act.put, List.setIfInBounds_toArray, List.set_cons_zero, List.set_cons_succ]
        refine wpAnyH_take (i := 3) (oi := _) (v := ?_) rfl (by kernel_rfl) (by kernel_rfl) (by kernel_rfl) (fun _ _ _ h => h) (Or.inl ⟨by kernel_rfl, ?_⟩) (by assumption) ?_
        rotate_left 1
        focus (intro wq hSw; (try dsimp only at hSw); go_simp; (try with_reducible rfl); done)
        try simp only [List.getElem_toArray, List.getElem_cons_zero, List.getElem_cons_succ, Act.put, List.setIfInBounds_toArray, List.set_cons_zero, List.set_cons_succ]
        refine wpAnyH_take (i := 4) (oi := _) (v := ?_) rfl (by kernel_rfl) (by kernel_rfl) (by kernel_rfl) (fun _ _ _ h => h) (Or.inl ⟨by kernel_rfl, ?_⟩) (by assumption) ?_
        rotate_left 1
        focus (intro wq hSw; (try dsimp only at hSw); go_simp; (try with_reducible rfl); done)
        try simp only [List.getElem_toArray, List.getElem_cons_zero, List.getElem_cons_succ, Act.put, List.setIfInBounds_toArray, List.set_cons_zero, List.set_cons_succ]
        refine wpAnyH_take (i := 5) (oi := _) (v := ?_) rfl (by kernel_rfl) (by kernel_rfl) (by kernel_rfl) (fun _ _ _ h => h) (Or.inl ⟨by kernel_rfl, ?_⟩) (by assumption) ?_
        rotate_left 1
        focus (intro wq hSw; (try dsimp only at hSw); go_simp; (try with_reducible rfl); done)
        try simp only [List.getElem_toArray, List.getElem_cons_zero, List.getElem_cons_succ, Act.put, List.setIfInBounds_toArray, List.set_cons_zero, List.set_cons_succ]
        refine wpAnyH_take (i := 7) (oi := _) (v := ?_) rfl (by kernel_rfl) (by kernel_rfl) (by kernel_rfl) (fun _ _ _ h => h) (Or.inl ⟨by kernel_rfl, ?_⟩) (by assumption) ?_
        rotate_left 1
        focus (intro wq hSw; (try dsimp only at hSw); go_simp; (try with_reducible rfl); done)
        try simp only [List.getElem_toArray, List.getElem_cons_zero, List.getElem_cons_succ, Act.put, List.setIfInBounds_toArray, List.set_cons_zero, List.set_cons_succ]
        refine wpAnyH_take (i := 8) (oi := _) (v := ?_) rfl (by kernel_rfl) (by kernel_rfl) (by kernel_rfl) (fun _ _ _ h => h) (Or.inl ⟨by kernel_rfl, ?_⟩) (by assumption) ?_
        rotate_left 1
        focus (intro wq hSw; (try dsimp only at hSw); go_simp; (try with_reducible rfl); done)
        try simp only [List.getElem_toArray, List.getElem_cons_zero, List.getElem_cons_succ, Act.put, List.setIfInBounds_toArray, List.set_cons_zero, List.set_cons_succ]
        refine wpAnyH_take (i := 9) (oi := _) (v := ?_) rfl (by kernel_rfl) (by kernel_rfl) (by kernel_rfl) (fun _ _ _ h => h) (Or.inl ⟨by kernel_rfl, ?_⟩) (by assumption) ?_
        rotate_left 1
        focus (intro wq hSw; (try dsimp only at hSw); go_simp; (try with_reducible rfl); done)
        try simp only [List.getElem_toArray, List.getElem_cons_zero, List.getElem_cons_succ, Act.put, List.setIfInBounds_toArray, List.set_cons_zero, List.set_cons_succ]
        refine wpAnyH_take (i := 10) (oi := _) (v := ?_) rfl (by kernel_rfl) (by kernel_rfl) (by kernel_rfl) (fun _ _ _ h => h) (Or.inl ⟨by kernel_rfl, ?_⟩) (by assumption) ?_
        rotate_left 1
        focus (intro wq hSw; (try dsimp only at hSw); go_simp; (try with_reducible rfl); done)
        try simp only [List.getElem_toArray, List.getElem_cons_zero, List.getElem_cons_succ, Act.put, List.setIfInBounds_toArray, List.set_cons_zero, List.set_cons_succ]
        refine wpAnyH_take (i := 11) (oi := _) (v := ?_) rfl (by kernel_rfl) (by kernel_rfl) (by kernel_rfl) (fun _ _ _ h => h) (Or.inl ⟨by kernel_rfl, ?_⟩) (by assumption) ?_
        rotate_left 1
        focus (intro wq hSw; (try dsimp only at hSw); go_simp; (try with_reducible rfl); done)
        try simp only [List.getElem_toArray, List.getElem_cons_zero, List.getElem_cons_succ, Act.put, List.setIfInBounds_toArray, List.set_cons_zero, List.set_cons_succ]
        refine wpAnyH_ready (rs := [6]) (by kernel_rfl) (by simp) ?_
        refine AllReadyH.cons (o := _) rfl (fun K hK => ?_) AllReadyH.nil
        rw [if_pos (by kernel_rfl)]
        go_simp
        (go_at_call 107; (with_reducible refine (S1.out _ KC.out).mono ?_); rintro e zz ⟨rfl, rfl⟩)
        first | refine hK.out _ _ ?_ (fun hHeld => ?_) | (go_wp2_with fail; refine hK.out _ _ ?_ (fun hHeld => ?_))
        · exact hHeld
        clear hK K
        try simp only [List.getElem_toArray, List.getElem_cons_zero, List.getElem_cons_succ, Act.put, List.setIfInBounds_toArray, List.set_cons_zero, List.set_cons_succ]
        refine wpAnyH_ready (rs := [12]) (by kernel_rfl) (by simp) ?_
        refine AllReadyH.cons (o := _) rfl (fun K hK => ?_) AllReadyH.nil
        rw [if_pos (by kernel_rfl)]
        go_simp
        (go_at_call 107; (with_reducible refine (S2.out _ KC.out).mono ?_); rintro e zz ⟨rfl, rfl⟩)
        first | refine hK.out _ _ ?_ (fun hHeld => ?_) | (go_wp2_with fail; refine hK.out _ _ ?_ (fun hHeld => ?_))
        · exact hHeld
        clear hK K
        try simp only [List.getElem_toArray, List.getElem_cons_zero, List.getElem_cons_succ, Act.put, List.setIfInBounds_toArray, List.set_cons_zero, List.set_cons_succ]
        refine wpAnyH_take (i := 13) (oi := _) (v := ?_) rfl (by kernel_rfl) (by kernel_rfl) (by kernel_rfl) (fun _ _ _ h => h) (Or.inl ⟨by kernel_rfl, ?_⟩) (by assumption) ?_
        rotate_left 1
        focus (intro wq hSw; (try dsimp only at hSw); go_simp; (try with_reducible rfl); done)
        try simp only [List.getElem_toArray, List.getElem_cons_zero, List.getElem_cons_succ, Act.put, List.setIfInBounds_toArray, List.set_cons_zero, List.set_cons_succ]
        refine wpAnyH_take (i := 14) (oi := _) (v := ?_) rfl (by kernel_rfl) (by kernel_rfl) (by kernel_rfl) (fun _ _ _ h => h) (Or.inl ⟨by kernel_rfl, ?_⟩) (by assumption) ?_
        rotate_left 1
        focus (intro wq hSw; (try dsimp only at hSw); go_simp; (try with_reducible rfl); done)
        try simp only [List.getElem_toArray, List.getElem_cons_zero, List.getElem_cons_succ, Act.put, List.setIfInBounds_toArray, List.set_cons_zero, List.set_cons_succ]
        refine wpAnyH_ready (rs := [15]) (by kernel_rfl) (by simp) ?_
        refine AllReadyH.cons (o := _) rfl (fun K hK => ?_) AllReadyH.nil
        rw [if_pos (by kernel_rfl)]
        go_simp
        have QB := (Below.refl v0.heap.size v0).alloc (Nat.le_refl _) (.cells #[.int .i64 A, .int .i64 (B - 1)] 42)
        have HA2 := Lib.hid (HV.out.keep QB)
        have hnew := al_new v0 (.cells #[.int .i64 A, .int .i64 (B - 1)] 42)
        obtain ⟨h, hh⟩ : ∃ h, v0.heap.size = h := ⟨_, rfl⟩
        have HHS : Hid (w.heap.size ≤ h ∧ h ≠ g) := Lib.hid ⟨by rw [← hh]; exact KC.out.size, fun z => by
        obtain ⟨cur, a, _⟩ := HV.out.row.row
        have := (Array.getElem?_eq_some_iff.1 a).1
        omega⟩
        rw [hh] at hnew ⊢
        generalize hv1 : v0.alloc (.cells #[.int .i64 A, .int .i64 (B - 1)] 42) = v1 at HA2 hnew ⊢
        clear hv1 hh QB
        have HP := Lib.hid (HA2.out.put ilt HHS.out.1 HHS.out.2 (by rw [HAA.out, HBB.out]; exact hnew))
        have HCE : Hid (∃ v, v1.cell? ⟨g, i, none⟩ = some v) := Lib.hid (by
        obtain ⟨cur, a, b, _⟩ := HA2.out.row.row
        rw [cell_blk a i]
        exact ⟨cur[i]'(by omega), Array.getElem?_eq_getElem (by omega)⟩)
        have f0 : v1.frozen? ⟨g, i, none⟩ = false := by obtain ⟨cur, a, _⟩ := HA2.out.row.row; exact blk_free a i
        obtain ⟨vv, g0⟩ := HCE.out
        clear hnew HHS HCE
        first | refine hK.out _ _ ?_ (fun hHeld => ?_) | (go_wp2_with fail; refine hK.out _ _ ?_ (fun hHeld => ?_))
        · exact cell_blk HA2.out.box 2
        clear hK K
        try simp only [List.getElem_toArray, List.getElem_cons_zero, List.getElem_cons_succ, Act.put, List.setIfInBounds_toArray, List.set_cons_zero, List.set_cons_succ]
        refine wpAnyH_take (i := 16) (oi := _) (v := ?_) rfl (by kernel_rfl) (by kernel_rfl) (by kernel_rfl) (fun _ _ _ h => h) (Or.inl ⟨by kernel_rfl, ?_⟩) (by assumption) ?_
        rotate_left 1
        focus (intro wq hSw; (try dsimp only at hSw); go_simp; (try with_reducible rfl); done)
        try simp only [List.getElem_toArray, List.getElem_cons_zero, List.getElem_cons_succ, Act.put, List.setIfInBounds_toArray, List.set_cons_zero, List.set_cons_succ]
        refine wpAnyH_ready (rs := [17]) (by kernel_rfl) (by simp) ?_
        refine AllReadyH.cons (o := _) rfl (fun K hK => ?_) AllReadyH.nil
        rw [if_pos (by kernel_rfl)]
        go_simp
        first | refine hK.out _ _ ?_ (fun hHeld => ?_) | (go_wp2_with fail; refine hK.out _ _ ?_ (fun hHeld => ?_))
        · exact cell_blk HP.out.box 2
        clear hK K
        try simp only [List.getElem_toArray, List.getElem_cons_zero, List.getElem_cons_succ, Act.put, List.setIfInBounds_toArray, List.set_cons_zero, List.set_cons_succ]
        refine wpAnyH_done (by kernel_rfl) ?_ _
        clear f0 g0 HA2 HV hHeld S1 S2 m1 m2 m3 HAA HBB KC HA
        generalize hw5 : v1.setCell ⟨g, i, none⟩ (.slice (some ⟨h, 0, none⟩) 1 1) = w5 at HP ⊢
        clear hw5
        go_wp2
        go_roundw
        case rel => exact ⟨i + 1, by omega, by go_num, HP⟩
        case measure => simp [intOf]; omega
      · obtain rfl : k = i := by omega
        have HC := Lib.hid (HA.out.row.co hk2)
        have c0 := cell_blk HA.out.box 0
        have c1 := cell_blk HA.out.box 1
        have c2 := cell_blk HA.out.box 2
        have c3 := cell_blk HA.out.box 3
        have r0 := cell_blk HA.out.res 0
        have r1 := cell_blk HA.out.res 1
        have r4 := cell_blk HA.out.res 2
        have r3 := cell_blk HA.out.res 3
        have f0 := blk_free HA.out.res 0
        have f1 := blk_free HA.out.res 1
        have f2 := blk_free HA.out.res 2
        have f3 := blk_free HA.out.res 3
        go_wp2_with fail
        have HRS := Lib.hid (blk_four HA.out.res (.int .i64 (dayS 4800)) (.int .i64 (k : Int)) (.slice (some ⟨g, 0, none⟩) k k) (.slice none 0 0))
        have HGF := Lib.hid (grow_four wr ro (.int .i64 (dayS 4800)) (.int .i64 (k : Int)) (.slice (some ⟨g, 0, none⟩) k k) (.slice none 0 0))
        generalize hwf : (((wr.setCell ⟨ro, 0, none⟩ (.int .i64 (dayS 4800))).setCell ⟨ro, 1, none⟩ (.int .i64 (k : Int))).setCell ⟨ro, 2, none⟩ (.slice (some ⟨g, 0, none⟩) k k)).setCell ⟨ro, 3, none⟩ (.slice none 0 0) = wf
        rw [hwf] at HRS HGF
        have HFIN : Hid (MonAt w.heap.size n k wf g k) := Lib.hid (by
          obtain ⟨cur, a, b, cc⟩ := HA.out.row.row
          have keepb : ∀ q, q ≠ ro → q < wr.heap.size → wf.heap[q]? = wr.heap[q]? := fun q q1 q2 => HGF.out.block q q2 (fun z => q1 (Option.some.inj z))
          refine ⟨cur, (keepb g HA.out.n3 (Array.getElem?_eq_some_iff.1 a).1).trans a, b, fun j hj => ?_⟩
          obtain ⟨h, d, e, e2, f⟩ := cc j hj
          have hr : h ≠ ro := fun z => by rw [z, HA.out.res] at f; simp at f
          exact ⟨h, d, e, e2, (keepb h hr (Array.getElem?_eq_some_iff.1 f).1).trans f⟩)
        clear hwf c0 c1 c2 c3 r0 r1 r4 r3 f0 f1 f2 f3 HC
        have HBW := Lib.hid (HA.out.bw.grown HGF.out HA.out.bw.size (fun q e => by cases e; exact HA.out.l1))
        have r0 : wf.cell? ⟨ro, 0, none⟩ = some (.int .i64 (dayS 4800)) := cell_blk HRS.out 0
        have r1 : wf.cell? ⟨ro, 1, none⟩ = some (.int .i64 (k : Int)) := cell_blk HRS.out 1
        have r4 : wf.cell? ⟨ro, 2, none⟩ = some (.slice (some ⟨g, 0, none⟩) k k) := cell_blk HRS.out 2
        have r3 : wf.cell? ⟨ro, 3, none⟩ = some (.slice none 0 0) := cell_blk HRS.out 3
        exact bodyPost_ret (v := .agg #[.int .i64 (dayS 4800), .int .i64 (k : Int), .slice (some ⟨g, 0, none⟩) k k, .slice none 0 0]) (by simp [results, Tryd.results83, go_sem, r0, r1, r4, r3]) rfl ⟨g, rfl, Lib.hid ⟨HFIN.out, HA.out.l3⟩, HBW⟩
end Go.Proofs.YtacpcokmgahjaaaDoor
