/- Contracts: what is kept of two right sets: less. -/
import Derived.Test.YthjpnnggghfepaaK44
namespace Go.Proofs.Ythjpnnggghfepaa
set_option linter.unusedVariables false
set_option linter.unusedSimpArgs false
open Go.ChangeShapes Go.WideShapes Go.ChangeAt Go.RowKit Go.Shelf
attribute [local go_sem] Oper.semAt_some

def Fless (p q : Bool) : Bool := (p && !q)
theorem want_less (p q : Bool) (w : World) : Calls Try.prog 46 #[.agg #[.bool p, .bool q]] w fun e w' => e = .returned (.bool (Fless p q)) ∧ w' = w.alloc (.cells #[.bool p, .bool q] 54) := by
  cases p <;> cases q <;> simp only [Fless]
  all_goals
    go_enter Try.func46, Try.ntmps46
    go_wp2
    go_returns
    exact ⟨rfl, rfl⟩
set_option maxRecDepth 100000 in
set_option maxHeartbeats 4000000 in
theorem keep_less (ao bo : Option Addr) (m1 c1 m2 c2 : Nat) (a b : List Sp) (ga : Good a) (gb : Good b) (h1 : m1 ≤ 1000000) (h2 : m2 ≤ 1000000) (w : World) (ha : SpAt w ao m1 c1 a) (hb : SpAt w bo m2 c2 b) :
    Calls Try.prog 43 #[.slice ao m1 c1, .slice bo m2 c2, .func (.func 46) #[] #[]] w fun e w' => ∃ v r, e = .returned v ∧ Good r ∧ (∀ t, mem r t ↔ Fless (decide (cnt a t % 2 = 1)) (decide (cnt b t % 2 = 1)) = true) ∧ r.length ≤ 2 * m1 + 2 * m2 ∧ w'.ownsRow w.heap.size 35 2 v r.length (spCells r) ∧ Below w.heap.size w w' := by
  obtain ⟨i0, hi, hz0, hz1, hz2⟩ := info_parts info35
  refine (callsIn_wide (n := 3)).1 ?_
  refine callsIn_of_wp_marks Try.func43 rfl trivial ?_ rfl
  simp only [Try.ntmps43, List.size_toArray, List.length_cons, List.length_nil, Nat.reduceAdd, Nat.reduceSub, Array.replicate_succ, Array.replicate_zero, List.push_toArray, List.append_toArray, List.nil_append, List.cons_append]
  gi_wp2_with (refine ⟨trivial, ?_⟩; gi_at_call 54; refine (callsIn_wide.2 (borders_any ao bo m1 c1 m2 c2 _)).mono ?_; rintro e w' ⟨rfl, rfl⟩)
  obtain ⟨h, hh⟩ : ∃ h, w.heap.size = h := ⟨_, rfl⟩
  have s1 : h + 1 + 1 = h + 2 := by omega
  have s2 : h + 2 + 1 = h + 3 := by omega
  have s3 : h + 3 + 1 = h + 4 := by omega
  have s4 : h + 4 + 1 = h + 5 := by omega
  rw [hh]
  simp only [s1, s2, s3, s4]
  obtain ⟨W0, hW0⟩ : ∃ W0, ((((((w.alloc (.cells #[.func (.func 46) #[] #[]] 55)).alloc (.cells #[.slice none 0 0] 22)).alloc (.cells #[.int .i64 0] 3)).alloc (.cells #[.bool false] 4)).alloc (.cells #[.slice ao m1 c1] 22)).alloc (.cells #[.slice bo m2 c2] 22)) = W0 := ⟨_, rfl⟩
  have hsz : W0.heap.size = h + 6 := by rw [← hW0, ← hh]; simp
  have b0 : Boxed W0 h 55 (.func (.func 46) #[] #[]) := by rw [← hW0]; exact (((((box_at w 55 _ hh).alloc _).alloc _).alloc _).alloc _).alloc _
  have b1 : Boxed W0 (h + 1) 22 (.slice none 0 0) := by rw [← hW0]; exact ((((box_at _ 22 _ (by simp [hh])).alloc _).alloc _).alloc _).alloc _
  have b2 : Boxed W0 (h + 2) 3 (.int .i64 0) := by rw [← hW0]; exact (((box_at _ 3 _ (by simp [hh])).alloc _).alloc _).alloc _
  have b3 : Boxed W0 (h + 3) 4 (.bool false) := by rw [← hW0]; exact ((box_at _ 4 _ (by simp [hh])).alloc _).alloc _
  have b4 : Boxed W0 (h + 4) 22 (.slice ao m1 c1) := by rw [← hW0]; exact (box_at _ 22 _ (by simp [hh])).alloc _
  have b5 : Boxed W0 (h + 5) 22 (.slice bo m2 c2) := by rw [← hW0]; exact box_at _ 22 _ (by simp [hh])
  have hB0 : Below w.heap.size w W0 := by rw [← hW0]; exact ((((((Below.refl _ w).alloc (Nat.le_refl _) _).alloc (by simp) _).alloc (by simp; omega) _).alloc (by simp; omega) _).alloc (by simp; omega) _).alloc (by simp; omega) _
  rw [hW0]
  clear hW0
  refine wpIn_rangeFunc_ownH rfl (by omega) (gf := 67) (lb := #[.pointer (some ⟨h + 4, 0, none⟩), .pointer (some ⟨h + 5, 0, none⟩)]) rfl trivial (enters_of Try.func67 (by kernel_rfl) rfl)
    (borders_stops 2 (by omega) (h + 4) (h + 5) ao bo m1 c1 m2 c2 a b ga gb h1 h2 w W0 hB0 b4.cell b5.cell ha hb) (fun p q => p.trans q) (kx_put (by rw [hh, hsz]; omega) (by omega) (by omega)) (Below.refl _ _) (fun _ => rfl)
    (fun pre W => Held Fless h (.func (.func 46) #[] #[]) (.slice ao m1 c1) (.slice bo m2 c2) pre W ∧ (Below w.heap.size w W ∧ (h + 6 ≤ W.heap.size ∧ pre.length ≤ 2 * m1 + 2 * m2)))
    (fun _ _ _ => False)
    (OwnFrom.and (held_own _ _ _ _ _ _) (OwnFrom.and (ownFrom_below (Nat.le_refl _) (by rw [hh, hsz]; omega)) (fun s A W row hs hg hr => ⟨Nat.le_trans hs.1 hg.size, hs.2⟩)))
    (fun _ _ _ _ _ hs _ _ => hs)
    ⟨⟨⟨_, b1, World.ownsRow_nil _ _ _ _, trivial⟩, b2, b3, b0, b4, b5⟩, hB0, by omega, by simp⟩
    (fun x a' W => ∃ Bx : Nat, True ∧ Pair W Bx x.1.2.1 x.1.2.2 ∧ a' = { tmps := #[.slice ao m1 c1, .slice bo m2 c2, .func (.func 46) #[] #[], undef, undef, .pointer (some ⟨h, 0, none⟩), .slice none 0 0, .pointer (some ⟨h + 1, 0, none⟩), .pointer (some ⟨h + 2, 0, none⟩), .pointer (some ⟨h + 3, 0, none⟩), .int .i64 x.1.1, .pointer (some ⟨Bx, 0, none⟩), undef, .slice ao m1 c1, .slice bo m2 c2, .func (.func 67) #[] #[.pointer (some ⟨h + 4, 0, none⟩), .pointer (some ⟨h + 5, 0, none⟩)], .int .i64 x.1.1, .agg #[.bool x.1.2.1, .bool x.1.2.2], undef, undef, undef, undef, undef, undef, undef, undef, undef, undef, undef, undef, undef, undef, undef, undef, undef, undef, undef, undef, undef, undef, undef], defers := [] })
    ?hAx ?assign ?body ?done ?stop
  case hAx =>
    rintro x a' s A W row ⟨Bx, hBx, hp, rfl⟩ hg hr
    refine ⟨Bx, hBx, (hg.block Bx hp.lt (fun e => ?_)).trans hp, rfl⟩
    obtain ⟨_, o, ho, hc⟩ := hr Bx e.symm
    rw [show A.heap[Bx]? = _ from hp] at ho; cases ho; cases hc
  case assign =>
    rintro l pre x W K ⟨hi0, hB, hS6, hS7⟩ hK
    obtain ⟨⟨z, p, q⟩, hz⟩ := x
    have hl1 := hi0.open_.lt
    unfold encs
    have KH := Lib.hid hi0
    have KB := Lib.hid hB
    clear hi0 hB hl1
    gi_wp2
    exact hK _ _ ((KeepsOthers.alloc _ _).from _) (kx_alloc (Kx.refl _ _ _ _) (by omega) (by omega) (by omega) _) ⟨KH.out.alloc _, KB.out.alloc (by omega) _, by simp; omega, hS7⟩ ⟨W.heap.size, trivial, World.alloc_heap_new W _, rfl⟩
  case body =>
    rintro l pre x a' W hl ⟨r, hr⟩ ⟨hH, hB, hS6, hS7⟩ ⟨Bx, hBx, hp, rfl⟩ hlt
    obtain ⟨⟨z, p, q⟩, hz⟩ := x
    have hpl := puts_len Fless (vals pre)
    rw [vals_len] at hpl
    have HS := Lib.hid (puts_snoc Fless (vals pre) (z, p, q))
    obtain ⟨st, hst⟩ : ∃ st, puts Fless (vals pre) = st := ⟨_, rfl⟩
    have hH' : Parts h (.func (.func 46) #[] #[]) (.slice ao m1 c1) (.slice bo m2 c2) (puts Fless (vals pre)) W := hH
    rw [hst] at hH' hpl HS
    obtain ⟨R, fr, op⟩ := st
    have HH := Lib.hid hH'
    have HBW := Lib.hid hB
    clear hH hH' hst hB
    have f0 := HH.out.fun_.cell
    obtain ⟨p0, p1⟩ := hp.cells
    have PA := HH.out.alloc (.cells #[.bool p, .bool q] 54)
    have o0 := PA.open_.cell
    have o1 := PA.open_.frozen
    have o2 := PA.from_.cell
    have o3 := PA.from_.frozen
    have WA := Lib.hid (fun (w : World) => want_less p q w)
    have HI := Lib.hid hi
    have HZ0 := Lib.hid hz0
    have HZ1 := Lib.hid hz1
    have HZ2 := Lib.hid hz2
    clear PA hi hz0 hz1 hz2 hp
    dsimp only at hz hpl
    obtain ⟨hz3, hz4⟩ := hz
    cases op
    · cases hw : Fless p q
      · rw [hw] at WA
        have HS2 : Hid (puts Fless (vals pre ++ [(z, p, q)]) = (R, fr, false)) := Lib.hid (by rw [HS.out]; unfold put; simp [hw])
        clear hw HS
        have PF := Lib.hid ((HH.out.alloc (.cells #[.bool p, .bool q] 54)).open_set false)
        have BF := Lib.hid (((Below.refl h W).alloc (by omega) (.cells #[.bool p, .bool q] 54)).setCell (p := ⟨h + 3, 0, none⟩) (by show _ ≤ h + 3; omega) (.bool false))
        gi_wp2_with (first | (refine ⟨trivial, ?_⟩; gi_at_call 46; with_reducible refine (CallsIn.inRound l (callsIn_wide.2 (WA.out _))).mono ?_; rintro e z1 ⟨rfl, rfl⟩))
        exact ⟨((KeepsOthers.alloc _ _).trans (KeepsOthers.setCell _ _ _)).from _, kx_parts HH.out PF.out (by rw [hh]; exact BF.out), by show Parts _ _ _ _ (puts _ (vals (pre ++ [_]))) _; rw [vals_snoc, HS2.out]; exact PF.out, HBW.out.trans (by rw [hh]; exact BF.out), by have := BF.out.size; omega, by simp; omega⟩
      · rw [hw] at WA
        have HS2 : Hid (puts Fless (vals pre ++ [(z, p, q)]) = (R, z, true)) := Lib.hid (by rw [HS.out]; unfold put; simp [hw])
        clear hw HS
        have PF := Lib.hid (((HH.out.alloc (.cells #[.bool p, .bool q] 54)).from_set z).open_set true)
        have BF := Lib.hid ((((Below.refl h W).alloc (by omega) (.cells #[.bool p, .bool q] 54)).setCell (p := ⟨h + 2, 0, none⟩) (by show _ ≤ h + 2; omega) (.int .i64 z)).setCell (p := ⟨h + 3, 0, none⟩) (by show _ ≤ h + 3; omega) (.bool true))
        gi_wp2_with (first | (refine ⟨trivial, ?_⟩; gi_at_call 46; with_reducible refine (CallsIn.inRound l (callsIn_wide.2 (WA.out _))).mono ?_; rintro e z1 ⟨rfl, rfl⟩))
        exact ⟨(((KeepsOthers.alloc _ _).trans (KeepsOthers.setCell _ _ _)).trans (KeepsOthers.setCell _ _ _)).from _, kx_parts HH.out PF.out (by rw [hh]; exact BF.out), by show Parts _ _ _ _ (puts _ (vals (pre ++ [_]))) _; rw [vals_snoc, HS2.out]; exact PF.out, HBW.out.trans (by rw [hh]; exact BF.out), by have := BF.out.size; omega, by simp; omega⟩
    · cases hw : Fless p q
      · rw [hw] at WA
        have HS2 : Hid (puts Fless (vals pre ++ [(z, p, q)]) = (R ++ [(fr, z - 1)], fr, false)) := Lib.hid (by rw [HS.out]; unfold put; simp [hw])
        clear hw HS
        have hz1' : -9223372036854775808 ≤ z - 1 := by omega
        have hz2' : z - 1 ≤ 9223372036854775807 := by omega
        have HPA := Lib.hid (HH.out.alloc (.cells #[.bool p, .bool q] 54))
        obtain ⟨v, hv, hrow, _⟩ := HPA.out.set_
        have hcv := hv.cell
        dsimp only at hrow
        have HV := Lib.hid hv
        have HROW := Lib.hid hrow
        have HCC : Hid (spCells R ++ [.int .i64 fr, .int .i64 (z - 1)] = spCells (R ++ [(fr, z - 1)])) := Lib.hid (by rw [spCells_snoc])
        have HLL : Hid (R.length + 1 = (R ++ [(fr, z - 1)]).length) := Lib.hid (by simp)
        clear hv hrow
        gi_wp2_with (first | (refine ⟨trivial, ?_⟩; gi_at_call 46; with_reducible refine (CallsIn.inRound l (callsIn_wide.2 (WA.out _))).mono ?_; rintro e z1 ⟨rfl, rfl⟩) | (gi_at_builtin; refine wpListIn_append_own _ rfl _ _ 22 rfl h 35 i0 (.agg #[.int .i64 0, .int .i64 0]) 2 16 Try.underlying22 HI.out HZ0.out HZ1.out HZ2.out rfl (by decide) _ _ _ rfl (keepB HROW.out ((Below.refl _ _).alloc (Nat.le_refl _) _)) ⟨W.heap.size + 1, 0, none⟩ 1 1 [.int .i64 fr, .int .i64 (z - 1)] rfl rfl (cells_new2q _ _ _ _ (by simp)) (by intro y hy; simp at hy; rcases hy with rfl | rfl <;> rfl) (by unfold maxLen; omega) (by omega) (by simp; omega) ?_; intro v' w1 hown' hgrow _; rw [HCC.out] at hown'; obtain ⟨g', cap', rfl⟩ := ownsRow_succ hown'; have q0 := HPA.out; have q1 := HV.out; have q2 := HROW.out; obtain ⟨hv1, pb, hk2, hb2⟩ := q0.grown q1 q2 (by simp; omega) HLL.out hown' hgrow; have hc1 := hv1.cell; have hf1 := hv1.frozen; have PB := Lib.hid pb; have BF2 := Lib.hid ((((Below.refl h W).alloc (by omega) (.cells #[.bool p, .bool q] 54)).trans hb2).setCell (p := ⟨h + 3, 0, none⟩) (by show _ ≤ h + 3; omega) (.bool false)); have HK2 := Lib.hid hk2; have HB2 := Lib.hid hb2; have o4 := pb.open_.cell; have o5 := pb.open_.frozen; clear q0 q1 q2 hown' hgrow hv1 pb hk2 hb2))
        exact ⟨(((KeepsOthers.alloc _ _).trans HK2.out).trans (KeepsOthers.setCell _ _ _)).from _, kx_parts HH.out (PB.out.open_set false) (by first | exact BF2.out | (rw [hh]; exact BF2.out)), by show Parts _ _ _ _ (puts _ (vals (pre ++ [_]))) _; rw [vals_snoc, HS2.out]; exact PB.out.open_set false, (by first | exact HBW.out.trans (by rw [hh]; exact BF2.out) | (have q := HBW.out; rw [hh] at q; exact q.trans BF2.out)), by have := HB2.out.size; simp at this ⊢; omega, by simp; omega⟩
      · rw [hw] at WA
        have HS2 : Hid (puts Fless (vals pre ++ [(z, p, q)]) = (R, fr, true)) := Lib.hid (by rw [HS.out]; unfold put; simp [hw])
        clear hw HS
        have PF := Lib.hid ((HH.out.alloc (.cells #[.bool p, .bool q] 54)).open_set true)
        have BF := Lib.hid (((Below.refl h W).alloc (by omega) (.cells #[.bool p, .bool q] 54)).setCell (p := ⟨h + 3, 0, none⟩) (by show _ ≤ h + 3; omega) (.bool true))
        gi_wp2_with (first | (refine ⟨trivial, ?_⟩; gi_at_call 46; with_reducible refine (CallsIn.inRound l (callsIn_wide.2 (WA.out _))).mono ?_; rintro e z1 ⟨rfl, rfl⟩))
        exact ⟨((KeepsOthers.alloc _ _).trans (KeepsOthers.setCell _ _ _)).from _, kx_parts HH.out PF.out (by rw [hh]; exact BF.out), by show Parts _ _ _ _ (puts _ (vals (pre ++ [_]))) _; rw [vals_snoc, HS2.out]; exact PF.out, HBW.out.trans (by rw [hh]; exact BF.out), by have := BF.out.size; omega, by simp; omega⟩
  case done =>
    rintro D ys W hD ⟨T, hrun, e1, e2⟩ ⟨hH, hB, hS6, hS7⟩ hK
    have hH' : Parts h (.func (.func 46) #[] #[]) (.slice ao m1 c1) (.slice bo m2 c2) (puts Fless (vals ys)) W := hH
    obtain ⟨v, hv, hrow, _⟩ := hH'.set_
    have hc := hv.cell
    gi_wp2
    refine ⟨by simp, .inl ⟨_, _, rfl, run_takeDeferred hK, ?_⟩⟩
    have q1 := puts_len Fless (vals ys)
    rw [vals_len] at q1
    refine ⟨_, results_tmp rfl _ _ _, v, rfl, (puts Fless (vals ys)).1, (puts_done (f := Fless) rfl ga gb hrun e1 e2).1, (puts_done (f := Fless) rfl ga gb hrun e1 e2).2, by omega, ownsRow_putObj hrow _ hK rfl, (by have q := hB.trans (belowK_b (w := w) (Nat.le_refl _) W D _ (.deferred none) (by omega) hK rfl rfl); rw [hh] at q; exact q)⟩
  case stop =>
    rintro D c pre W _ _ h' _
    exact h'.elim
end Go.Proofs.Ythjpnnggghfepaa
