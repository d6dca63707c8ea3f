/- Contracts of the document's own answer for layer 1: sums, differences. -/
import Derived.Test.YtplbdfdpcgmcjaaRefB
import Derived.Deep.RegionHeld3
import Derived.KernelRfl
namespace Go.Proofs.Ytplbdfdpcgmcjaa
set_option linter.unusedVariables false
set_option linter.unusedSimpArgs false
open Go.ChangeShapes Go.WideShapes Go.ChangeAt Go.RowKit
open Long (dig)

theorem more_below (n m : Nat) (w : World) : Calls Try.prog 42 #[.agg #[.int .u32 (dig n 0 : Nat), .int .u32 (dig n 1 : Nat), .int .u32 (dig n 2 : Nat), .int .u32 (dig n 3 : Nat), .int .u32 (dig n 4 : Nat), .int .u32 (dig n 5 : Nat), .int .u32 (dig n 6 : Nat), .int .u32 (dig n 7 : Nat), .int .u32 (dig n 8 : Nat)], .agg #[.int .u32 (dig m 0 : Nat), .int .u32 (dig m 1 : Nat), .int .u32 (dig m 2 : Nat), .int .u32 (dig m 3 : Nat), .int .u32 (dig m 4 : Nat), .int .u32 (dig m 5 : Nat), .int .u32 (dig m 6 : Nat), .int .u32 (dig m 7 : Nat), .int .u32 (dig m 8 : Nat)]] w fun e w' => e = .returned (.agg #[.int .u32 (dig (n + m) 0 : Nat), .int .u32 (dig (n + m) 1 : Nat), .int .u32 (dig (n + m) 2 : Nat), .int .u32 (dig (n + m) 3 : Nat), .int .u32 (dig (n + m) 4 : Nat), .int .u32 (dig (n + m) 5 : Nat), .int .u32 (dig (n + m) 6 : Nat), .int .u32 (dig (n + m) 7 : Nat), .int .u32 (dig (n + m) 8 : Nat)]) ∧ Below w.heap.size w w' :=
  (more_any n m w).mono fun e w' ⟨h1, nq, h2⟩ => ⟨h1, by rw [h2]; refine below_drewN' ?_ _; go_grown⟩
theorem rest_below (m d : Nat) (w : World) : Calls Try.prog 43 #[.agg #[.int .u32 (dig (m + d) 0 : Nat), .int .u32 (dig (m + d) 1 : Nat), .int .u32 (dig (m + d) 2 : Nat), .int .u32 (dig (m + d) 3 : Nat), .int .u32 (dig (m + d) 4 : Nat), .int .u32 (dig (m + d) 5 : Nat), .int .u32 (dig (m + d) 6 : Nat), .int .u32 (dig (m + d) 7 : Nat), .int .u32 (dig (m + d) 8 : Nat)], .agg #[.int .u32 (dig m 0 : Nat), .int .u32 (dig m 1 : Nat), .int .u32 (dig m 2 : Nat), .int .u32 (dig m 3 : Nat), .int .u32 (dig m 4 : Nat), .int .u32 (dig m 5 : Nat), .int .u32 (dig m 6 : Nat), .int .u32 (dig m 7 : Nat), .int .u32 (dig m 8 : Nat)]] w fun e w' => e = .returned (.agg #[.int .u32 (dig d 0 : Nat), .int .u32 (dig d 1 : Nat), .int .u32 (dig d 2 : Nat), .int .u32 (dig d 3 : Nat), .int .u32 (dig d 4 : Nat), .int .u32 (dig d 5 : Nat), .int .u32 (dig d 6 : Nat), .int .u32 (dig d 7 : Nat), .int .u32 (dig d 8 : Nat)]) ∧ Below w.heap.size w w' :=
  (rest_any m d w).mono fun e w' ⟨h1, nq, h2⟩ => ⟨h1, by rw [h2]; refine below_drewN' ?_ _; go_grown⟩
theorem below_on {B : Nat} {W0 W W' : World} (h : Below B W0 W) (hB : B ≤ W0.heap.size) (b : Below W.heap.size W W') : Below B W0 W' := h.trans (b.mono (Nat.le_trans hB h.size))

set_option maxHeartbeats 4000000 in
theorem sum_same (s : Bool) (n m : Nat) (w : World) :
    Calls Try.prog 31 #[.agg #[.bool s, .int .u32 (dig n 0 : Nat), .int .u32 (dig n 1 : Nat), .int .u32 (dig n 2 : Nat), .int .u32 (dig n 3 : Nat), .int .u32 (dig n 4 : Nat), .int .u32 (dig n 5 : Nat), .int .u32 (dig n 6 : Nat), .int .u32 (dig n 7 : Nat), .int .u32 (dig n 8 : Nat)], .agg #[.bool s, .int .u32 (dig m 0 : Nat), .int .u32 (dig m 1 : Nat), .int .u32 (dig m 2 : Nat), .int .u32 (dig m 3 : Nat), .int .u32 (dig m 4 : Nat), .int .u32 (dig m 5 : Nat), .int .u32 (dig m 6 : Nat), .int .u32 (dig m 7 : Nat), .int .u32 (dig m 8 : Nat)]] w fun e w' => e = .returned (.agg #[.bool s, .int .u32 (dig (n + m) 0 : Nat), .int .u32 (dig (n + m) 1 : Nat), .int .u32 (dig (n + m) 2 : Nat), .int .u32 (dig (n + m) 3 : Nat), .int .u32 (dig (n + m) 4 : Nat), .int .u32 (dig (n + m) 5 : Nat), .int .u32 (dig (n + m) 6 : Nat), .int .u32 (dig (n + m) 7 : Nat), .int .u32 (dig (n + m) 8 : Nat)]) ∧ Below w.heap.size w w' := by
  go_enter Try.func31, Try.ntmps31
  go_wp2
  have HT : Hid (Below (w.heap.size + 1 + 1 + 1) (((w.alloc (.cells #[.bool s, .int .u32 (dig n 0 : Nat), .int .u32 (dig n 1 : Nat), .int .u32 (dig n 2 : Nat), .int .u32 (dig n 3 : Nat), .int .u32 (dig n 4 : Nat), .int .u32 (dig n 5 : Nat), .int .u32 (dig n 6 : Nat), .int .u32 (dig n 7 : Nat), .int .u32 (dig n 8 : Nat)] 43)).alloc (.cells #[.bool s, .int .u32 (dig m 0 : Nat), .int .u32 (dig m 1 : Nat), .int .u32 (dig m 2 : Nat), .int .u32 (dig m 3 : Nat), .int .u32 (dig m 4 : Nat), .int .u32 (dig m 5 : Nat), .int .u32 (dig m 6 : Nat), .int .u32 (dig m 7 : Nat), .int .u32 (dig m 8 : Nat)] 43)).alloc (.cells #[.bool false, .int .u32 0, .int .u32 0, .int .u32 0, .int .u32 0, .int .u32 0, .int .u32 0, .int .u32 0, .int .u32 0, .int .u32 0] 43)) (((w.alloc (.cells #[.bool s, .int .u32 (dig n 0 : Nat), .int .u32 (dig n 1 : Nat), .int .u32 (dig n 2 : Nat), .int .u32 (dig n 3 : Nat), .int .u32 (dig n 4 : Nat), .int .u32 (dig n 5 : Nat), .int .u32 (dig n 6 : Nat), .int .u32 (dig n 7 : Nat), .int .u32 (dig n 8 : Nat)] 43)).alloc (.cells #[.bool s, .int .u32 (dig m 0 : Nat), .int .u32 (dig m 1 : Nat), .int .u32 (dig m 2 : Nat), .int .u32 (dig m 3 : Nat), .int .u32 (dig m 4 : Nat), .int .u32 (dig m 5 : Nat), .int .u32 (dig m 6 : Nat), .int .u32 (dig m 7 : Nat), .int .u32 (dig m 8 : Nat)] 43)).alloc (.cells #[.bool false, .int .u32 0, .int .u32 0, .int .u32 0, .int .u32 0, .int .u32 0, .int .u32 0, .int .u32 0, .int .u32 0, .int .u32 0] 43))) := Lib.hid (Below.refl _ _)
  refine wp_region_held_drew (S := (fun W => Hid (Below (w.heap.size + 1 + 1) (((w.alloc (.cells #[.bool s, .int .u32 (dig n 0 : Nat), .int .u32 (dig n 1 : Nat), .int .u32 (dig n 2 : Nat), .int .u32 (dig n 3 : Nat), .int .u32 (dig n 4 : Nat), .int .u32 (dig n 5 : Nat), .int .u32 (dig n 6 : Nat), .int .u32 (dig n 7 : Nat), .int .u32 (dig n 8 : Nat)] 43)).alloc (.cells #[.bool s, .int .u32 (dig m 0 : Nat), .int .u32 (dig m 1 : Nat), .int .u32 (dig m 2 : Nat), .int .u32 (dig m 3 : Nat), .int .u32 (dig m 4 : Nat), .int .u32 (dig m 5 : Nat), .int .u32 (dig m 6 : Nat), .int .u32 (dig m 7 : Nat), .int .u32 (dig m 8 : Nat)] 43)).alloc (.cells #[.bool false, .int .u32 0, .int .u32 0, .int .u32 0, .int .u32 0, .int .u32 0, .int .u32 0, .int .u32 0, .int .u32 0, .int .u32 0] 43)) W))) (by kernel_rfl) ?_ (fun hHeld => ?_)
  · exact Lib.hid (HT.out.drew.mono (by omega))
  refine wpAnyH_take (i := 0) (oi := _) (v := ?_) rfl (by kernel_rfl) (by kernel_rfl) (by kernel_rfl) (fun _ _ _ h => h) (Or.inl ⟨by kernel_rfl, ?_⟩) (by assumption) ?_
  rotate_left 1
  focus (intro wq hSw; (try dsimp only at hSw); have q0 := fun o => hSw.out.cell (p := ⟨w.heap.size, o, none⟩) (by show w.heap.size < w.heap.size + 1 + 1; omega); have q1 := fun o => hSw.out.cell (p := ⟨w.heap.size + 1, o, none⟩) (by show w.heap.size + 1 < w.heap.size + 1 + 1; omega); clear hSw; go_simp; (try with_reducible rfl); done)
  try simp only [List.getElem_toArray, List.getElem_cons_zero, List.getElem_cons_succ, Act.put, List.setIfInBounds_toArray, List.set_cons_zero, List.set_cons_succ]
  refine wpAnyH_take (i := 1) (oi := _) (v := ?_) rfl (by kernel_rfl) (by kernel_rfl) (by kernel_rfl) (fun _ _ _ h => h) (Or.inl ⟨by kernel_rfl, ?_⟩) (by assumption) ?_
  rotate_left 1
  focus (intro wq hSw; (try dsimp only at hSw); have q0 := fun o => hSw.out.cell (p := ⟨w.heap.size, o, none⟩) (by show w.heap.size < w.heap.size + 1 + 1; omega); have q1 := fun o => hSw.out.cell (p := ⟨w.heap.size + 1, o, none⟩) (by show w.heap.size + 1 < w.heap.size + 1 + 1; omega); clear hSw; go_simp; (try with_reducible rfl); done)
  try simp only [List.getElem_toArray, List.getElem_cons_zero, List.getElem_cons_succ, Act.put, List.setIfInBounds_toArray, List.set_cons_zero, List.set_cons_succ]
  refine wpAnyH_take (i := 2) (oi := _) (v := ?_) rfl (by kernel_rfl) (by kernel_rfl) (by kernel_rfl) (fun _ _ _ h => h) (Or.inl ⟨by kernel_rfl, ?_⟩) (by assumption) ?_
  rotate_left 1
  focus (intro wq hSw; (try dsimp only at hSw); have q0 := fun o => hSw.out.cell (p := ⟨w.heap.size, o, none⟩) (by show w.heap.size < w.heap.size + 1 + 1; omega); have q1 := fun o => hSw.out.cell (p := ⟨w.heap.size + 1, o, none⟩) (by show w.heap.size + 1 < w.heap.size + 1 + 1; omega); clear hSw; go_simp; (try with_reducible rfl); done)
  try simp only [List.getElem_toArray, List.getElem_cons_zero, List.getElem_cons_succ, Act.put, List.setIfInBounds_toArray, List.set_cons_zero, List.set_cons_succ]
  refine wpAnyH_take (i := 3) (oi := _) (v := ?_) rfl (by kernel_rfl) (by kernel_rfl) (by kernel_rfl) (fun _ _ _ h => h) (Or.inl ⟨by kernel_rfl, ?_⟩) (by assumption) ?_
  rotate_left 1
  focus (intro wq hSw; (try dsimp only at hSw); have q0 := fun o => hSw.out.cell (p := ⟨w.heap.size, o, none⟩) (by show w.heap.size < w.heap.size + 1 + 1; omega); have q1 := fun o => hSw.out.cell (p := ⟨w.heap.size + 1, o, none⟩) (by show w.heap.size + 1 < w.heap.size + 1 + 1; omega); clear hSw; go_simp; (try with_reducible rfl); done)
  try simp only [List.getElem_toArray, List.getElem_cons_zero, List.getElem_cons_succ, Act.put, List.setIfInBounds_toArray, List.set_cons_zero, List.set_cons_succ]
  refine wpAnyH_take (i := 4) (oi := _) (v := ?_) rfl (by kernel_rfl) (by kernel_rfl) (by kernel_rfl) (fun _ _ _ h => h) (Or.inl ⟨by kernel_rfl, ?_⟩) (by assumption) ?_
  rotate_left 1
  focus (intro wq hSw; (try dsimp only at hSw); have q0 := fun o => hSw.out.cell (p := ⟨w.heap.size, o, none⟩) (by show w.heap.size < w.heap.size + 1 + 1; omega); have q1 := fun o => hSw.out.cell (p := ⟨w.heap.size + 1, o, none⟩) (by show w.heap.size + 1 < w.heap.size + 1 + 1; omega); clear hSw; go_simp; (try with_reducible rfl); done)
  try simp only [List.getElem_toArray, List.getElem_cons_zero, List.getElem_cons_succ, Act.put, List.setIfInBounds_toArray, List.set_cons_zero, List.set_cons_succ]
  refine wpAnyH_take (i := 5) (oi := _) (v := ?_) rfl (by kernel_rfl) (by kernel_rfl) (by kernel_rfl) (fun _ _ _ h => h) (Or.inl ⟨by kernel_rfl, ?_⟩) (by assumption) ?_
  rotate_left 1
  focus (intro wq hSw; (try dsimp only at hSw); have q0 := fun o => hSw.out.cell (p := ⟨w.heap.size, o, none⟩) (by show w.heap.size < w.heap.size + 1 + 1; omega); have q1 := fun o => hSw.out.cell (p := ⟨w.heap.size + 1, o, none⟩) (by show w.heap.size + 1 < w.heap.size + 1 + 1; omega); clear hSw; go_simp; (try with_reducible rfl); done)
  try simp only [List.getElem_toArray, List.getElem_cons_zero, List.getElem_cons_succ, Act.put, List.setIfInBounds_toArray, List.set_cons_zero, List.set_cons_succ]
  refine wpAnyH_ready (rs := [6]) (by kernel_rfl) (by simp) ?_
  refine AllReadyH.cons (o := _) rfl (fun K hK => ?_) AllReadyH.nil
  rw [if_pos (by kernel_rfl)]
  go_simp
  (go_at_call 42; (with_reducible refine (more_below n m _).mono ?_); rintro e w1 ⟨rfl, hbw⟩)
  have hbt : Below (w.heap.size + 1 + 1 + 1) (((w.alloc (.cells #[.bool s, .int .u32 (dig n 0 : Nat), .int .u32 (dig n 1 : Nat), .int .u32 (dig n 2 : Nat), .int .u32 (dig n 3 : Nat), .int .u32 (dig n 4 : Nat), .int .u32 (dig n 5 : Nat), .int .u32 (dig n 6 : Nat), .int .u32 (dig n 7 : Nat), .int .u32 (dig n 8 : Nat)] 43)).alloc (.cells #[.bool s, .int .u32 (dig m 0 : Nat), .int .u32 (dig m 1 : Nat), .int .u32 (dig m 2 : Nat), .int .u32 (dig m 3 : Nat), .int .u32 (dig m 4 : Nat), .int .u32 (dig m 5 : Nat), .int .u32 (dig m 6 : Nat), .int .u32 (dig m 7 : Nat), .int .u32 (dig m 8 : Nat)] 43)).alloc (.cells #[.bool false, .int .u32 0, .int .u32 0, .int .u32 0, .int .u32 0, .int .u32 0, .int .u32 0, .int .u32 0, .int .u32 0, .int .u32 0] 43)) w1 := below_on HT.out.drew (by simp) hbw
  have qc := fun o => hbt.cell (p := ⟨w.heap.size + 1 + 1, o, none⟩) (by simp)
  have qf := fun o => hbt.frozen (p := ⟨w.heap.size + 1 + 1, o, none⟩) (by simp)
  have g0 : w1.cell? ⟨w.heap.size + 1 + 1, 0, none⟩ = some (.bool false) := by rw [qc]; go_simp
  have g1 : w1.cell? ⟨w.heap.size + 1 + 1, 1, none⟩ = some (.int .u32 0) := by rw [qc]; go_simp
  have g2 : w1.cell? ⟨w.heap.size + 1 + 1, 2, none⟩ = some (.int .u32 0) := by rw [qc]; go_simp
  have g3 : w1.cell? ⟨w.heap.size + 1 + 1, 3, none⟩ = some (.int .u32 0) := by rw [qc]; go_simp
  have g4 : w1.cell? ⟨w.heap.size + 1 + 1, 4, none⟩ = some (.int .u32 0) := by rw [qc]; go_simp
  have g5 : w1.cell? ⟨w.heap.size + 1 + 1, 5, none⟩ = some (.int .u32 0) := by rw [qc]; go_simp
  have g6 : w1.cell? ⟨w.heap.size + 1 + 1, 6, none⟩ = some (.int .u32 0) := by rw [qc]; go_simp
  have g7 : w1.cell? ⟨w.heap.size + 1 + 1, 7, none⟩ = some (.int .u32 0) := by rw [qc]; go_simp
  have g8 : w1.cell? ⟨w.heap.size + 1 + 1, 8, none⟩ = some (.int .u32 0) := by rw [qc]; go_simp
  have g9 : w1.cell? ⟨w.heap.size + 1 + 1, 9, none⟩ = some (.int .u32 0) := by rw [qc]; go_simp
  have f0 : w1.frozen? ⟨w.heap.size + 1 + 1, 0, none⟩ = false := by rw [qf]; go_simp
  have f1 : w1.frozen? ⟨w.heap.size + 1 + 1, 1, none⟩ = false := by rw [qf]; go_simp
  have f2 : w1.frozen? ⟨w.heap.size + 1 + 1, 2, none⟩ = false := by rw [qf]; go_simp
  have f3 : w1.frozen? ⟨w.heap.size + 1 + 1, 3, none⟩ = false := by rw [qf]; go_simp
  have f4 : w1.frozen? ⟨w.heap.size + 1 + 1, 4, none⟩ = false := by rw [qf]; go_simp
  have f5 : w1.frozen? ⟨w.heap.size + 1 + 1, 5, none⟩ = false := by rw [qf]; go_simp
  have f6 : w1.frozen? ⟨w.heap.size + 1 + 1, 6, none⟩ = false := by rw [qf]; go_simp
  have f7 : w1.frozen? ⟨w.heap.size + 1 + 1, 7, none⟩ = false := by rw [qf]; go_simp
  have f8 : w1.frozen? ⟨w.heap.size + 1 + 1, 8, none⟩ = false := by rw [qf]; go_simp
  have f9 : w1.frozen? ⟨w.heap.size + 1 + 1, 9, none⟩ = false := by rw [qf]; go_simp
  clear qc qf
  refine hK.out _ _ ?_ (fun hHeld => ?_)
  · exact Lib.hid (hbt.mono (by omega))
  have HB := Lib.hid hbt
  clear hK K hbt hbw
  try simp only [List.getElem_toArray, List.getElem_cons_zero, List.getElem_cons_succ, Act.put, List.setIfInBounds_toArray, List.set_cons_zero, List.set_cons_succ]
  refine wpAnyH_take (i := 7) (oi := _) (v := ?_) rfl (by kernel_rfl) (by kernel_rfl) (by kernel_rfl) (fun _ _ _ h => h) (Or.inl ⟨by kernel_rfl, ?_⟩) (by assumption) ?_
  rotate_left 1
  focus (intro wq hSw; (try dsimp only at hSw); clear hSw; go_simp; (try with_reducible rfl); done)
  try simp only [List.getElem_toArray, List.getElem_cons_zero, List.getElem_cons_succ, Act.put, List.setIfInBounds_toArray, List.set_cons_zero, List.set_cons_succ]
  refine wpAnyH_ready (rs := [8]) (by kernel_rfl) (by simp) ?_
  refine AllReadyH.cons (o := _) rfl (fun K hK => ?_) AllReadyH.nil
  rw [if_pos (by kernel_rfl)]
  go_simp
  obtain ⟨wf, hwf, r0, r1, r2, r3, r4, r5, r6, r7, r8, r9, bf⟩ : ∃ wf, ((((((((((w1.setCell ⟨w.heap.size + 1 + 1, 0, none⟩ (.bool s)).setCell ⟨w.heap.size + 1 + 1, 1, none⟩ (.int .u32 (dig (n + m) 0 : Nat))).setCell ⟨w.heap.size + 1 + 1, 2, none⟩ (.int .u32 (dig (n + m) 1 : Nat))).setCell ⟨w.heap.size + 1 + 1, 3, none⟩ (.int .u32 (dig (n + m) 2 : Nat))).setCell ⟨w.heap.size + 1 + 1, 4, none⟩ (.int .u32 (dig (n + m) 3 : Nat))).setCell ⟨w.heap.size + 1 + 1, 5, none⟩ (.int .u32 (dig (n + m) 4 : Nat))).setCell ⟨w.heap.size + 1 + 1, 6, none⟩ (.int .u32 (dig (n + m) 5 : Nat))).setCell ⟨w.heap.size + 1 + 1, 7, none⟩ (.int .u32 (dig (n + m) 6 : Nat))).setCell ⟨w.heap.size + 1 + 1, 8, none⟩ (.int .u32 (dig (n + m) 7 : Nat))).setCell ⟨w.heap.size + 1 + 1, 9, none⟩ (.int .u32 (dig (n + m) 8 : Nat))) = wf ∧ wf.cell? ⟨w.heap.size + 1 + 1, 0, none⟩ = some (.bool s) ∧ wf.cell? ⟨w.heap.size + 1 + 1, 1, none⟩ = some (.int .u32 (dig (n + m) 0 : Nat)) ∧ wf.cell? ⟨w.heap.size + 1 + 1, 2, none⟩ = some (.int .u32 (dig (n + m) 1 : Nat)) ∧ wf.cell? ⟨w.heap.size + 1 + 1, 3, none⟩ = some (.int .u32 (dig (n + m) 2 : Nat)) ∧ wf.cell? ⟨w.heap.size + 1 + 1, 4, none⟩ = some (.int .u32 (dig (n + m) 3 : Nat)) ∧ wf.cell? ⟨w.heap.size + 1 + 1, 5, none⟩ = some (.int .u32 (dig (n + m) 4 : Nat)) ∧ wf.cell? ⟨w.heap.size + 1 + 1, 6, none⟩ = some (.int .u32 (dig (n + m) 5 : Nat)) ∧ wf.cell? ⟨w.heap.size + 1 + 1, 7, none⟩ = some (.int .u32 (dig (n + m) 6 : Nat)) ∧ wf.cell? ⟨w.heap.size + 1 + 1, 8, none⟩ = some (.int .u32 (dig (n + m) 7 : Nat)) ∧ wf.cell? ⟨w.heap.size + 1 + 1, 9, none⟩ = some (.int .u32 (dig (n + m) 8 : Nat)) ∧ Hid (Below (w.heap.size + 1 + 1) w1 wf) := by
    refine ⟨_, rfl, ?_, ?_, ?_, ?_, ?_, ?_, ?_, ?_, ?_, ?_, Lib.hid (by (iterate 10 (refine Below.setCell (p := ⟨w.heap.size + 1 + 1, _, none⟩) ?_ (Nat.le_refl (w.heap.size + 1 + 1)) _)); exact Below.refl _ _)⟩ <;> go_simp
  rw [hwf]
  clear hwf g0 f0 g1 f1 g2 f2 g3 f3 g4 f4 g5 f5 g6 f6 g7 f7 g8 f8 g9 f9
  refine hK.out _ _ ?_ (fun hHeld => ?_)
  · exact Lib.hid (Below.trans hHeld.out bf.out)
  /- · exact Lib.hid (by (iterate 10 (refine Below.setCell (p := ⟨w.heap.size + 1 + 1, _, none⟩) ?_ (Nat.le_refl (w.heap.size + 1 + 1)) _)); exact hHeld.out) -/
  clear hK K
  try simp only [List.getElem_toArray, List.getElem_cons_zero, List.getElem_cons_succ, Act.put, List.setIfInBounds_toArray, List.set_cons_zero, List.set_cons_succ]
  refine wpAnyH_done (by kernel_rfl) ?_ _
  go_wp2
  have fin : Below w.heap.size w w1 := Below.trans (show Below w.heap.size w (((w.alloc (.cells #[.bool s, .int .u32 (dig n 0 : Nat), .int .u32 (dig n 1 : Nat), .int .u32 (dig n 2 : Nat), .int .u32 (dig n 3 : Nat), .int .u32 (dig n 4 : Nat), .int .u32 (dig n 5 : Nat), .int .u32 (dig n 6 : Nat), .int .u32 (dig n 7 : Nat), .int .u32 (dig n 8 : Nat)] 43)).alloc (.cells #[.bool s, .int .u32 (dig m 0 : Nat), .int .u32 (dig m 1 : Nat), .int .u32 (dig m 2 : Nat), .int .u32 (dig m 3 : Nat), .int .u32 (dig m 4 : Nat), .int .u32 (dig m 5 : Nat), .int .u32 (dig m 6 : Nat), .int .u32 (dig m 7 : Nat), .int .u32 (dig m 8 : Nat)] 43)).alloc (.cells #[.bool false, .int .u32 0, .int .u32 0, .int .u32 0, .int .u32 0, .int .u32 0, .int .u32 0, .int .u32 0, .int .u32 0, .int .u32 0] 43)) by go_grown) (HB.out.mono (by omega))
  refine bodyPost_ret (v := .agg #[.bool s, .int .u32 (dig (n + m) 0 : Nat), .int .u32 (dig (n + m) 1 : Nat), .int .u32 (dig (n + m) 2 : Nat), .int .u32 (dig (n + m) 3 : Nat), .int .u32 (dig (n + m) 4 : Nat), .int .u32 (dig (n + m) 5 : Nat), .int .u32 (dig (n + m) 6 : Nat), .int .u32 (dig (n + m) 7 : Nat), .int .u32 (dig (n + m) 8 : Nat)]) (by simp [results, Try.results31, go_sem, r0, r1, r2, r3, r4, r5, r6, r7, r8, r9]) rfl ⟨rfl, Below.trans fin (bf.out.mono (by omega))⟩

theorem below_is (n m : Nat) (b : Bool) (w : World) (hn : n < 22300745198530623141535718272648361505980416) (hm : m < 22300745198530623141535718272648361505980416) (h : decide (n < m) = b) :
    Calls Try.prog 37 #[.agg #[.int .u32 (dig n 0 : Nat), .int .u32 (dig n 1 : Nat), .int .u32 (dig n 2 : Nat), .int .u32 (dig n 3 : Nat), .int .u32 (dig n 4 : Nat), .int .u32 (dig n 5 : Nat), .int .u32 (dig n 6 : Nat), .int .u32 (dig n 7 : Nat), .int .u32 (dig n 8 : Nat)], .agg #[.int .u32 (dig m 0 : Nat), .int .u32 (dig m 1 : Nat), .int .u32 (dig m 2 : Nat), .int .u32 (dig m 3 : Nat), .int .u32 (dig m 4 : Nat), .int .u32 (dig m 5 : Nat), .int .u32 (dig m 6 : Nat), .int .u32 (dig m 7 : Nat), .int .u32 (dig m 8 : Nat)]] w fun e w' => e = .returned (.bool b) ∧ Below w.heap.size w w' :=
  (below_any n m w hn hm).mono fun e w' ⟨h1, nq, h2⟩ => ⟨by rw [h1, h], by rw [h2]; refine below_drewN' ?_ _; go_grown⟩

set_option maxHeartbeats 4000000 in
theorem sum_ge (s t : Bool) (m d : Nat) (w : World) (hst : (s == t) = false) (h1 : m + d < 22300745198530623141535718272648361505980416) :
    Calls Try.prog 31 #[.agg #[.bool s, .int .u32 (dig (m + d) 0 : Nat), .int .u32 (dig (m + d) 1 : Nat), .int .u32 (dig (m + d) 2 : Nat), .int .u32 (dig (m + d) 3 : Nat), .int .u32 (dig (m + d) 4 : Nat), .int .u32 (dig (m + d) 5 : Nat), .int .u32 (dig (m + d) 6 : Nat), .int .u32 (dig (m + d) 7 : Nat), .int .u32 (dig (m + d) 8 : Nat)], .agg #[.bool t, .int .u32 (dig m 0 : Nat), .int .u32 (dig m 1 : Nat), .int .u32 (dig m 2 : Nat), .int .u32 (dig m 3 : Nat), .int .u32 (dig m 4 : Nat), .int .u32 (dig m 5 : Nat), .int .u32 (dig m 6 : Nat), .int .u32 (dig m 7 : Nat), .int .u32 (dig m 8 : Nat)]] w fun e w' => e = .returned (.agg #[.bool s, .int .u32 (dig d 0 : Nat), .int .u32 (dig d 1 : Nat), .int .u32 (dig d 2 : Nat), .int .u32 (dig d 3 : Nat), .int .u32 (dig d 4 : Nat), .int .u32 (dig d 5 : Nat), .int .u32 (dig d 6 : Nat), .int .u32 (dig d 7 : Nat), .int .u32 (dig d 8 : Nat)]) ∧ Below w.heap.size w w' := by
  have B := Lib.hid (fun w => below_is (m + d) m false w h1 (by omega) (decide_eq_false (by omega)))
  clear h1
  go_enter Try.func31, Try.ntmps31
  go_wp2_with (go_at_call 37; (with_reducible refine (B.out _).mono ?_); rintro e w2 ⟨rfl, b2⟩; have H2 := Lib.hid b2; clear b2)
  have HT : Hid (Below (w.heap.size + 1 + 1 + 1) (((w.alloc (.cells #[.bool s, .int .u32 (dig (m + d) 0 : Nat), .int .u32 (dig (m + d) 1 : Nat), .int .u32 (dig (m + d) 2 : Nat), .int .u32 (dig (m + d) 3 : Nat), .int .u32 (dig (m + d) 4 : Nat), .int .u32 (dig (m + d) 5 : Nat), .int .u32 (dig (m + d) 6 : Nat), .int .u32 (dig (m + d) 7 : Nat), .int .u32 (dig (m + d) 8 : Nat)] 43)).alloc (.cells #[.bool t, .int .u32 (dig m 0 : Nat), .int .u32 (dig m 1 : Nat), .int .u32 (dig m 2 : Nat), .int .u32 (dig m 3 : Nat), .int .u32 (dig m 4 : Nat), .int .u32 (dig m 5 : Nat), .int .u32 (dig m 6 : Nat), .int .u32 (dig m 7 : Nat), .int .u32 (dig m 8 : Nat)] 43)).alloc (.cells #[.bool false, .int .u32 0, .int .u32 0, .int .u32 0, .int .u32 0, .int .u32 0, .int .u32 0, .int .u32 0, .int .u32 0, .int .u32 0] 43)) w2) := Lib.hid (H2.out.mono (by simp))
  refine wp_region_held_drew (S := (fun W => Hid (Below (w.heap.size + 1 + 1) (((w.alloc (.cells #[.bool s, .int .u32 (dig (m + d) 0 : Nat), .int .u32 (dig (m + d) 1 : Nat), .int .u32 (dig (m + d) 2 : Nat), .int .u32 (dig (m + d) 3 : Nat), .int .u32 (dig (m + d) 4 : Nat), .int .u32 (dig (m + d) 5 : Nat), .int .u32 (dig (m + d) 6 : Nat), .int .u32 (dig (m + d) 7 : Nat), .int .u32 (dig (m + d) 8 : Nat)] 43)).alloc (.cells #[.bool t, .int .u32 (dig m 0 : Nat), .int .u32 (dig m 1 : Nat), .int .u32 (dig m 2 : Nat), .int .u32 (dig m 3 : Nat), .int .u32 (dig m 4 : Nat), .int .u32 (dig m 5 : Nat), .int .u32 (dig m 6 : Nat), .int .u32 (dig m 7 : Nat), .int .u32 (dig m 8 : Nat)] 43)).alloc (.cells #[.bool false, .int .u32 0, .int .u32 0, .int .u32 0, .int .u32 0, .int .u32 0, .int .u32 0, .int .u32 0, .int .u32 0, .int .u32 0] 43)) W))) (by kernel_rfl) ?_ (fun hHeld => ?_)
  · exact Lib.hid (HT.out.drew.mono (by omega))
  refine wpAnyH_take (i := 0) (oi := _) (v := ?_) rfl (by kernel_rfl) (by kernel_rfl) (by kernel_rfl) (fun _ _ _ h => h) (Or.inl ⟨by kernel_rfl, ?_⟩) (by assumption) ?_
  rotate_left 1
  focus (intro wq hSw; (try dsimp only at hSw); have q0 := fun o => hSw.out.cell (p := ⟨w.heap.size, o, none⟩) (by show w.heap.size < w.heap.size + 1 + 1; omega); have q1 := fun o => hSw.out.cell (p := ⟨w.heap.size + 1, o, none⟩) (by show w.heap.size + 1 < w.heap.size + 1 + 1; omega); clear hSw; go_simp; (try with_reducible rfl); done)
  try simp only [List.getElem_toArray, List.getElem_cons_zero, List.getElem_cons_succ, Act.put, List.setIfInBounds_toArray, List.set_cons_zero, List.set_cons_succ]
  refine wpAnyH_take (i := 1) (oi := _) (v := ?_) rfl (by kernel_rfl) (by kernel_rfl) (by kernel_rfl) (fun _ _ _ h => h) (Or.inl ⟨by kernel_rfl, ?_⟩) (by assumption) ?_
  rotate_left 1
  focus (intro wq hSw; (try dsimp only at hSw); have q0 := fun o => hSw.out.cell (p := ⟨w.heap.size, o, none⟩) (by show w.heap.size < w.heap.size + 1 + 1; omega); have q1 := fun o => hSw.out.cell (p := ⟨w.heap.size + 1, o, none⟩) (by show w.heap.size + 1 < w.heap.size + 1 + 1; omega); clear hSw; go_simp; (try with_reducible rfl); done)
  try simp only [List.getElem_toArray, List.getElem_cons_zero, List.getElem_cons_succ, Act.put, List.setIfInBounds_toArray, List.set_cons_zero, List.set_cons_succ]
  refine wpAnyH_take (i := 2) (oi := _) (v := ?_) rfl (by kernel_rfl) (by kernel_rfl) (by kernel_rfl) (fun _ _ _ h => h) (Or.inl ⟨by kernel_rfl, ?_⟩) (by assumption) ?_
  rotate_left 1
  focus (intro wq hSw; (try dsimp only at hSw); have q0 := fun o => hSw.out.cell (p := ⟨w.heap.size, o, none⟩) (by show w.heap.size < w.heap.size + 1 + 1; omega); have q1 := fun o => hSw.out.cell (p := ⟨w.heap.size + 1, o, none⟩) (by show w.heap.size + 1 < w.heap.size + 1 + 1; omega); clear hSw; go_simp; (try with_reducible rfl); done)
  try simp only [List.getElem_toArray, List.getElem_cons_zero, List.getElem_cons_succ, Act.put, List.setIfInBounds_toArray, List.set_cons_zero, List.set_cons_succ]
  refine wpAnyH_take (i := 3) (oi := _) (v := ?_) rfl (by kernel_rfl) (by kernel_rfl) (by kernel_rfl) (fun _ _ _ h => h) (Or.inl ⟨by kernel_rfl, ?_⟩) (by assumption) ?_
  rotate_left 1
  focus (intro wq hSw; (try dsimp only at hSw); have q0 := fun o => hSw.out.cell (p := ⟨w.heap.size, o, none⟩) (by show w.heap.size < w.heap.size + 1 + 1; omega); have q1 := fun o => hSw.out.cell (p := ⟨w.heap.size + 1, o, none⟩) (by show w.heap.size + 1 < w.heap.size + 1 + 1; omega); clear hSw; go_simp; (try with_reducible rfl); done)
  try simp only [List.getElem_toArray, List.getElem_cons_zero, List.getElem_cons_succ, Act.put, List.setIfInBounds_toArray, List.set_cons_zero, List.set_cons_succ]
  refine wpAnyH_take (i := 4) (oi := _) (v := ?_) rfl (by kernel_rfl) (by kernel_rfl) (by kernel_rfl) (fun _ _ _ h => h) (Or.inl ⟨by kernel_rfl, ?_⟩) (by assumption) ?_
  rotate_left 1
  focus (intro wq hSw; (try dsimp only at hSw); have q0 := fun o => hSw.out.cell (p := ⟨w.heap.size, o, none⟩) (by show w.heap.size < w.heap.size + 1 + 1; omega); have q1 := fun o => hSw.out.cell (p := ⟨w.heap.size + 1, o, none⟩) (by show w.heap.size + 1 < w.heap.size + 1 + 1; omega); clear hSw; go_simp; (try with_reducible rfl); done)
  try simp only [List.getElem_toArray, List.getElem_cons_zero, List.getElem_cons_succ, Act.put, List.setIfInBounds_toArray, List.set_cons_zero, List.set_cons_succ]
  refine wpAnyH_take (i := 5) (oi := _) (v := ?_) rfl (by kernel_rfl) (by kernel_rfl) (by kernel_rfl) (fun _ _ _ h => h) (Or.inl ⟨by kernel_rfl, ?_⟩) (by assumption) ?_
  rotate_left 1
  focus (intro wq hSw; (try dsimp only at hSw); have q0 := fun o => hSw.out.cell (p := ⟨w.heap.size, o, none⟩) (by show w.heap.size < w.heap.size + 1 + 1; omega); have q1 := fun o => hSw.out.cell (p := ⟨w.heap.size + 1, o, none⟩) (by show w.heap.size + 1 < w.heap.size + 1 + 1; omega); clear hSw; go_simp; (try with_reducible rfl); done)
  try simp only [List.getElem_toArray, List.getElem_cons_zero, List.getElem_cons_succ, Act.put, List.setIfInBounds_toArray, List.set_cons_zero, List.set_cons_succ]
  refine wpAnyH_ready (rs := [6]) (by kernel_rfl) (by simp) ?_
  refine AllReadyH.cons (o := _) rfl (fun K hK => ?_) AllReadyH.nil
  rw [if_pos (by kernel_rfl)]
  go_simp
  (go_at_call 43; (with_reducible refine (rest_below m d _).mono ?_); rintro e w1 ⟨rfl, hbw⟩)
  have hbt : Below (w.heap.size + 1 + 1 + 1) (((w.alloc (.cells #[.bool s, .int .u32 (dig (m + d) 0 : Nat), .int .u32 (dig (m + d) 1 : Nat), .int .u32 (dig (m + d) 2 : Nat), .int .u32 (dig (m + d) 3 : Nat), .int .u32 (dig (m + d) 4 : Nat), .int .u32 (dig (m + d) 5 : Nat), .int .u32 (dig (m + d) 6 : Nat), .int .u32 (dig (m + d) 7 : Nat), .int .u32 (dig (m + d) 8 : Nat)] 43)).alloc (.cells #[.bool t, .int .u32 (dig m 0 : Nat), .int .u32 (dig m 1 : Nat), .int .u32 (dig m 2 : Nat), .int .u32 (dig m 3 : Nat), .int .u32 (dig m 4 : Nat), .int .u32 (dig m 5 : Nat), .int .u32 (dig m 6 : Nat), .int .u32 (dig m 7 : Nat), .int .u32 (dig m 8 : Nat)] 43)).alloc (.cells #[.bool false, .int .u32 0, .int .u32 0, .int .u32 0, .int .u32 0, .int .u32 0, .int .u32 0, .int .u32 0, .int .u32 0, .int .u32 0] 43)) w1 := below_on HT.out.drew (by simp) hbw
  have qc := fun o => hbt.cell (p := ⟨w.heap.size + 1 + 1, o, none⟩) (by simp)
  have qf := fun o => hbt.frozen (p := ⟨w.heap.size + 1 + 1, o, none⟩) (by simp)
  have g0 : w1.cell? ⟨w.heap.size + 1 + 1, 0, none⟩ = some (.bool false) := by rw [qc]; go_simp
  have g1 : w1.cell? ⟨w.heap.size + 1 + 1, 1, none⟩ = some (.int .u32 0) := by rw [qc]; go_simp
  have g2 : w1.cell? ⟨w.heap.size + 1 + 1, 2, none⟩ = some (.int .u32 0) := by rw [qc]; go_simp
  have g3 : w1.cell? ⟨w.heap.size + 1 + 1, 3, none⟩ = some (.int .u32 0) := by rw [qc]; go_simp
  have g4 : w1.cell? ⟨w.heap.size + 1 + 1, 4, none⟩ = some (.int .u32 0) := by rw [qc]; go_simp
  have g5 : w1.cell? ⟨w.heap.size + 1 + 1, 5, none⟩ = some (.int .u32 0) := by rw [qc]; go_simp
  have g6 : w1.cell? ⟨w.heap.size + 1 + 1, 6, none⟩ = some (.int .u32 0) := by rw [qc]; go_simp
  have g7 : w1.cell? ⟨w.heap.size + 1 + 1, 7, none⟩ = some (.int .u32 0) := by rw [qc]; go_simp
  have g8 : w1.cell? ⟨w.heap.size + 1 + 1, 8, none⟩ = some (.int .u32 0) := by rw [qc]; go_simp
  have g9 : w1.cell? ⟨w.heap.size + 1 + 1, 9, none⟩ = some (.int .u32 0) := by rw [qc]; go_simp
  have f0 : w1.frozen? ⟨w.heap.size + 1 + 1, 0, none⟩ = false := by rw [qf]; go_simp
  have f1 : w1.frozen? ⟨w.heap.size + 1 + 1, 1, none⟩ = false := by rw [qf]; go_simp
  have f2 : w1.frozen? ⟨w.heap.size + 1 + 1, 2, none⟩ = false := by rw [qf]; go_simp
  have f3 : w1.frozen? ⟨w.heap.size + 1 + 1, 3, none⟩ = false := by rw [qf]; go_simp
  have f4 : w1.frozen? ⟨w.heap.size + 1 + 1, 4, none⟩ = false := by rw [qf]; go_simp
  have f5 : w1.frozen? ⟨w.heap.size + 1 + 1, 5, none⟩ = false := by rw [qf]; go_simp
  have f6 : w1.frozen? ⟨w.heap.size + 1 + 1, 6, none⟩ = false := by rw [qf]; go_simp
  have f7 : w1.frozen? ⟨w.heap.size + 1 + 1, 7, none⟩ = false := by rw [qf]; go_simp
  have f8 : w1.frozen? ⟨w.heap.size + 1 + 1, 8, none⟩ = false := by rw [qf]; go_simp
  have f9 : w1.frozen? ⟨w.heap.size + 1 + 1, 9, none⟩ = false := by rw [qf]; go_simp
  clear qc qf
  refine hK.out _ _ ?_ (fun hHeld => ?_)
  · exact Lib.hid (hbt.mono (by omega))
  have HB := Lib.hid hbt
  clear hK K hbt hbw
  try simp only [List.getElem_toArray, List.getElem_cons_zero, List.getElem_cons_succ, Act.put, List.setIfInBounds_toArray, List.set_cons_zero, List.set_cons_succ]
  refine wpAnyH_take (i := 7) (oi := _) (v := ?_) rfl (by kernel_rfl) (by kernel_rfl) (by kernel_rfl) (fun _ _ _ h => h) (Or.inl ⟨by kernel_rfl, ?_⟩) (by assumption) ?_
  rotate_left 1
  focus (intro wq hSw; (try dsimp only at hSw); clear hSw; go_simp; (try with_reducible rfl); done)
  try simp only [List.getElem_toArray, List.getElem_cons_zero, List.getElem_cons_succ, Act.put, List.setIfInBounds_toArray, List.set_cons_zero, List.set_cons_succ]
  refine wpAnyH_ready (rs := [8]) (by kernel_rfl) (by simp) ?_
  refine AllReadyH.cons (o := _) rfl (fun K hK => ?_) AllReadyH.nil
  rw [if_pos (by kernel_rfl)]
  go_simp
  obtain ⟨wf, hwf, r0, r1, r2, r3, r4, r5, r6, r7, r8, r9, bf⟩ : ∃ wf, ((((((((((w1.setCell ⟨w.heap.size + 1 + 1, 0, none⟩ (.bool s)).setCell ⟨w.heap.size + 1 + 1, 1, none⟩ (.int .u32 (dig d 0 : Nat))).setCell ⟨w.heap.size + 1 + 1, 2, none⟩ (.int .u32 (dig d 1 : Nat))).setCell ⟨w.heap.size + 1 + 1, 3, none⟩ (.int .u32 (dig d 2 : Nat))).setCell ⟨w.heap.size + 1 + 1, 4, none⟩ (.int .u32 (dig d 3 : Nat))).setCell ⟨w.heap.size + 1 + 1, 5, none⟩ (.int .u32 (dig d 4 : Nat))).setCell ⟨w.heap.size + 1 + 1, 6, none⟩ (.int .u32 (dig d 5 : Nat))).setCell ⟨w.heap.size + 1 + 1, 7, none⟩ (.int .u32 (dig d 6 : Nat))).setCell ⟨w.heap.size + 1 + 1, 8, none⟩ (.int .u32 (dig d 7 : Nat))).setCell ⟨w.heap.size + 1 + 1, 9, none⟩ (.int .u32 (dig d 8 : Nat))) = wf ∧ wf.cell? ⟨w.heap.size + 1 + 1, 0, none⟩ = some (.bool s) ∧ wf.cell? ⟨w.heap.size + 1 + 1, 1, none⟩ = some (.int .u32 (dig d 0 : Nat)) ∧ wf.cell? ⟨w.heap.size + 1 + 1, 2, none⟩ = some (.int .u32 (dig d 1 : Nat)) ∧ wf.cell? ⟨w.heap.size + 1 + 1, 3, none⟩ = some (.int .u32 (dig d 2 : Nat)) ∧ wf.cell? ⟨w.heap.size + 1 + 1, 4, none⟩ = some (.int .u32 (dig d 3 : Nat)) ∧ wf.cell? ⟨w.heap.size + 1 + 1, 5, none⟩ = some (.int .u32 (dig d 4 : Nat)) ∧ wf.cell? ⟨w.heap.size + 1 + 1, 6, none⟩ = some (.int .u32 (dig d 5 : Nat)) ∧ wf.cell? ⟨w.heap.size + 1 + 1, 7, none⟩ = some (.int .u32 (dig d 6 : Nat)) ∧ wf.cell? ⟨w.heap.size + 1 + 1, 8, none⟩ = some (.int .u32 (dig d 7 : Nat)) ∧ wf.cell? ⟨w.heap.size + 1 + 1, 9, none⟩ = some (.int .u32 (dig d 8 : Nat)) ∧ Hid (Below (w.heap.size + 1 + 1) w1 wf) := by
    refine ⟨_, rfl, ?_, ?_, ?_, ?_, ?_, ?_, ?_, ?_, ?_, ?_, Lib.hid (by (iterate 10 (refine Below.setCell (p := ⟨w.heap.size + 1 + 1, _, none⟩) ?_ (Nat.le_refl (w.heap.size + 1 + 1)) _)); exact Below.refl _ _)⟩ <;> go_simp
  rw [hwf]
  clear hwf g0 f0 g1 f1 g2 f2 g3 f3 g4 f4 g5 f5 g6 f6 g7 f7 g8 f8 g9 f9
  refine hK.out _ _ ?_ (fun hHeld => ?_)
  · exact Lib.hid (Below.trans hHeld.out bf.out)
  /- · exact Lib.hid (by (iterate 10 (refine Below.setCell (p := ⟨w.heap.size + 1 + 1, _, none⟩) ?_ (Nat.le_refl (w.heap.size + 1 + 1)) _)); exact hHeld.out) -/
  clear hK K
  try simp only [List.getElem_toArray, List.getElem_cons_zero, List.getElem_cons_succ, Act.put, List.setIfInBounds_toArray, List.set_cons_zero, List.set_cons_succ]
  refine wpAnyH_done (by kernel_rfl) ?_ _
  go_wp2
  have fin : Below w.heap.size w w1 := Below.trans (show Below w.heap.size w (((w.alloc (.cells #[.bool s, .int .u32 (dig (m + d) 0 : Nat), .int .u32 (dig (m + d) 1 : Nat), .int .u32 (dig (m + d) 2 : Nat), .int .u32 (dig (m + d) 3 : Nat), .int .u32 (dig (m + d) 4 : Nat), .int .u32 (dig (m + d) 5 : Nat), .int .u32 (dig (m + d) 6 : Nat), .int .u32 (dig (m + d) 7 : Nat), .int .u32 (dig (m + d) 8 : Nat)] 43)).alloc (.cells #[.bool t, .int .u32 (dig m 0 : Nat), .int .u32 (dig m 1 : Nat), .int .u32 (dig m 2 : Nat), .int .u32 (dig m 3 : Nat), .int .u32 (dig m 4 : Nat), .int .u32 (dig m 5 : Nat), .int .u32 (dig m 6 : Nat), .int .u32 (dig m 7 : Nat), .int .u32 (dig m 8 : Nat)] 43)).alloc (.cells #[.bool false, .int .u32 0, .int .u32 0, .int .u32 0, .int .u32 0, .int .u32 0, .int .u32 0, .int .u32 0, .int .u32 0, .int .u32 0] 43)) by go_grown) (HB.out.mono (by omega))
  refine bodyPost_ret (v := .agg #[.bool s, .int .u32 (dig d 0 : Nat), .int .u32 (dig d 1 : Nat), .int .u32 (dig d 2 : Nat), .int .u32 (dig d 3 : Nat), .int .u32 (dig d 4 : Nat), .int .u32 (dig d 5 : Nat), .int .u32 (dig d 6 : Nat), .int .u32 (dig d 7 : Nat), .int .u32 (dig d 8 : Nat)]) (by simp [results, Try.results31, go_sem, r0, r1, r2, r3, r4, r5, r6, r7, r8, r9]) rfl ⟨rfl, Below.trans fin (bf.out.mono (by omega))⟩

set_option maxHeartbeats 4000000 in
theorem sum_lt (s t : Bool) (n d : Nat) (w : World) (hst : (s == t) = false) (h0 : 1 ≤ d) (h1 : n + d < 22300745198530623141535718272648361505980416) :
    Calls Try.prog 31 #[.agg #[.bool s, .int .u32 (dig n 0 : Nat), .int .u32 (dig n 1 : Nat), .int .u32 (dig n 2 : Nat), .int .u32 (dig n 3 : Nat), .int .u32 (dig n 4 : Nat), .int .u32 (dig n 5 : Nat), .int .u32 (dig n 6 : Nat), .int .u32 (dig n 7 : Nat), .int .u32 (dig n 8 : Nat)], .agg #[.bool t, .int .u32 (dig (n + d) 0 : Nat), .int .u32 (dig (n + d) 1 : Nat), .int .u32 (dig (n + d) 2 : Nat), .int .u32 (dig (n + d) 3 : Nat), .int .u32 (dig (n + d) 4 : Nat), .int .u32 (dig (n + d) 5 : Nat), .int .u32 (dig (n + d) 6 : Nat), .int .u32 (dig (n + d) 7 : Nat), .int .u32 (dig (n + d) 8 : Nat)]] w fun e w' => e = .returned (.agg #[.bool t, .int .u32 (dig d 0 : Nat), .int .u32 (dig d 1 : Nat), .int .u32 (dig d 2 : Nat), .int .u32 (dig d 3 : Nat), .int .u32 (dig d 4 : Nat), .int .u32 (dig d 5 : Nat), .int .u32 (dig d 6 : Nat), .int .u32 (dig d 7 : Nat), .int .u32 (dig d 8 : Nat)]) ∧ Below w.heap.size w w' := by
  have B := Lib.hid (fun w => below_is n (n + d) true w (by omega) h1 (decide_eq_true (by omega)))
  clear h1 h0
  go_enter Try.func31, Try.ntmps31
  go_wp2_with (go_at_call 37; (with_reducible refine (B.out _).mono ?_); rintro e w2 ⟨rfl, b2⟩; have H2 := Lib.hid b2; clear b2)
  have HT : Hid (Below (w.heap.size + 1 + 1 + 1) (((w.alloc (.cells #[.bool s, .int .u32 (dig n 0 : Nat), .int .u32 (dig n 1 : Nat), .int .u32 (dig n 2 : Nat), .int .u32 (dig n 3 : Nat), .int .u32 (dig n 4 : Nat), .int .u32 (dig n 5 : Nat), .int .u32 (dig n 6 : Nat), .int .u32 (dig n 7 : Nat), .int .u32 (dig n 8 : Nat)] 43)).alloc (.cells #[.bool t, .int .u32 (dig (n + d) 0 : Nat), .int .u32 (dig (n + d) 1 : Nat), .int .u32 (dig (n + d) 2 : Nat), .int .u32 (dig (n + d) 3 : Nat), .int .u32 (dig (n + d) 4 : Nat), .int .u32 (dig (n + d) 5 : Nat), .int .u32 (dig (n + d) 6 : Nat), .int .u32 (dig (n + d) 7 : Nat), .int .u32 (dig (n + d) 8 : Nat)] 43)).alloc (.cells #[.bool false, .int .u32 0, .int .u32 0, .int .u32 0, .int .u32 0, .int .u32 0, .int .u32 0, .int .u32 0, .int .u32 0, .int .u32 0] 43)) w2) := Lib.hid (H2.out.mono (by simp))
  refine wp_region_held_drew (S := (fun W => Hid (Below (w.heap.size + 1 + 1) (((w.alloc (.cells #[.bool s, .int .u32 (dig n 0 : Nat), .int .u32 (dig n 1 : Nat), .int .u32 (dig n 2 : Nat), .int .u32 (dig n 3 : Nat), .int .u32 (dig n 4 : Nat), .int .u32 (dig n 5 : Nat), .int .u32 (dig n 6 : Nat), .int .u32 (dig n 7 : Nat), .int .u32 (dig n 8 : Nat)] 43)).alloc (.cells #[.bool t, .int .u32 (dig (n + d) 0 : Nat), .int .u32 (dig (n + d) 1 : Nat), .int .u32 (dig (n + d) 2 : Nat), .int .u32 (dig (n + d) 3 : Nat), .int .u32 (dig (n + d) 4 : Nat), .int .u32 (dig (n + d) 5 : Nat), .int .u32 (dig (n + d) 6 : Nat), .int .u32 (dig (n + d) 7 : Nat), .int .u32 (dig (n + d) 8 : Nat)] 43)).alloc (.cells #[.bool false, .int .u32 0, .int .u32 0, .int .u32 0, .int .u32 0, .int .u32 0, .int .u32 0, .int .u32 0, .int .u32 0, .int .u32 0] 43)) W))) (by kernel_rfl) ?_ (fun hHeld => ?_)
  · exact Lib.hid (HT.out.drew.mono (by omega))
  refine wpAnyH_take (i := 0) (oi := _) (v := ?_) rfl (by kernel_rfl) (by kernel_rfl) (by kernel_rfl) (fun _ _ _ h => h) (Or.inl ⟨by kernel_rfl, ?_⟩) (by assumption) ?_
  rotate_left 1
  focus (intro wq hSw; (try dsimp only at hSw); have q0 := fun o => hSw.out.cell (p := ⟨w.heap.size, o, none⟩) (by show w.heap.size < w.heap.size + 1 + 1; omega); have q1 := fun o => hSw.out.cell (p := ⟨w.heap.size + 1, o, none⟩) (by show w.heap.size + 1 < w.heap.size + 1 + 1; omega); clear hSw; go_simp; (try with_reducible rfl); done)
  try simp only [List.getElem_toArray, List.getElem_cons_zero, List.getElem_cons_succ, Act.put, List.setIfInBounds_toArray, List.set_cons_zero, List.set_cons_succ]
  refine wpAnyH_take (i := 1) (oi := _) (v := ?_) rfl (by kernel_rfl) (by kernel_rfl) (by kernel_rfl) (fun _ _ _ h => h) (Or.inl ⟨by kernel_rfl, ?_⟩) (by assumption) ?_
  rotate_left 1
  focus (intro wq hSw; (try dsimp only at hSw); have q0 := fun o => hSw.out.cell (p := ⟨w.heap.size, o, none⟩) (by show w.heap.size < w.heap.size + 1 + 1; omega); have q1 := fun o => hSw.out.cell (p := ⟨w.heap.size + 1, o, none⟩) (by show w.heap.size + 1 < w.heap.size + 1 + 1; omega); clear hSw; go_simp; (try with_reducible rfl); done)
  try simp only [List.getElem_toArray, List.getElem_cons_zero, List.getElem_cons_succ, Act.put, List.setIfInBounds_toArray, List.set_cons_zero, List.set_cons_succ]
  refine wpAnyH_take (i := 2) (oi := _) (v := ?_) rfl (by kernel_rfl) (by kernel_rfl) (by kernel_rfl) (fun _ _ _ h => h) (Or.inl ⟨by kernel_rfl, ?_⟩) (by assumption) ?_
  rotate_left 1
  focus (intro wq hSw; (try dsimp only at hSw); have q0 := fun o => hSw.out.cell (p := ⟨w.heap.size, o, none⟩) (by show w.heap.size < w.heap.size + 1 + 1; omega); have q1 := fun o => hSw.out.cell (p := ⟨w.heap.size + 1, o, none⟩) (by show w.heap.size + 1 < w.heap.size + 1 + 1; omega); clear hSw; go_simp; (try with_reducible rfl); done)
  try simp only [List.getElem_toArray, List.getElem_cons_zero, List.getElem_cons_succ, Act.put, List.setIfInBounds_toArray, List.set_cons_zero, List.set_cons_succ]
  refine wpAnyH_take (i := 3) (oi := _) (v := ?_) rfl (by kernel_rfl) (by kernel_rfl) (by kernel_rfl) (fun _ _ _ h => h) (Or.inl ⟨by kernel_rfl, ?_⟩) (by assumption) ?_
  rotate_left 1
  focus (intro wq hSw; (try dsimp only at hSw); have q0 := fun o => hSw.out.cell (p := ⟨w.heap.size, o, none⟩) (by show w.heap.size < w.heap.size + 1 + 1; omega); have q1 := fun o => hSw.out.cell (p := ⟨w.heap.size + 1, o, none⟩) (by show w.heap.size + 1 < w.heap.size + 1 + 1; omega); clear hSw; go_simp; (try with_reducible rfl); done)
  try simp only [List.getElem_toArray, List.getElem_cons_zero, List.getElem_cons_succ, Act.put, List.setIfInBounds_toArray, List.set_cons_zero, List.set_cons_succ]
  refine wpAnyH_take (i := 4) (oi := _) (v := ?_) rfl (by kernel_rfl) (by kernel_rfl) (by kernel_rfl) (fun _ _ _ h => h) (Or.inl ⟨by kernel_rfl, ?_⟩) (by assumption) ?_
  rotate_left 1
  focus (intro wq hSw; (try dsimp only at hSw); have q0 := fun o => hSw.out.cell (p := ⟨w.heap.size, o, none⟩) (by show w.heap.size < w.heap.size + 1 + 1; omega); have q1 := fun o => hSw.out.cell (p := ⟨w.heap.size + 1, o, none⟩) (by show w.heap.size + 1 < w.heap.size + 1 + 1; omega); clear hSw; go_simp; (try with_reducible rfl); done)
  try simp only [List.getElem_toArray, List.getElem_cons_zero, List.getElem_cons_succ, Act.put, List.setIfInBounds_toArray, List.set_cons_zero, List.set_cons_succ]
  refine wpAnyH_take (i := 5) (oi := _) (v := ?_) rfl (by kernel_rfl) (by kernel_rfl) (by kernel_rfl) (fun _ _ _ h => h) (Or.inl ⟨by kernel_rfl, ?_⟩) (by assumption) ?_
  rotate_left 1
  focus (intro wq hSw; (try dsimp only at hSw); have q0 := fun o => hSw.out.cell (p := ⟨w.heap.size, o, none⟩) (by show w.heap.size < w.heap.size + 1 + 1; omega); have q1 := fun o => hSw.out.cell (p := ⟨w.heap.size + 1, o, none⟩) (by show w.heap.size + 1 < w.heap.size + 1 + 1; omega); clear hSw; go_simp; (try with_reducible rfl); done)
  try simp only [List.getElem_toArray, List.getElem_cons_zero, List.getElem_cons_succ, Act.put, List.setIfInBounds_toArray, List.set_cons_zero, List.set_cons_succ]
  refine wpAnyH_ready (rs := [6]) (by kernel_rfl) (by simp) ?_
  refine AllReadyH.cons (o := _) rfl (fun K hK => ?_) AllReadyH.nil
  rw [if_pos (by kernel_rfl)]
  go_simp
  (go_at_call 43; (with_reducible refine (rest_below n d _).mono ?_); rintro e w1 ⟨rfl, hbw⟩)
  have hbt : Below (w.heap.size + 1 + 1 + 1) (((w.alloc (.cells #[.bool s, .int .u32 (dig n 0 : Nat), .int .u32 (dig n 1 : Nat), .int .u32 (dig n 2 : Nat), .int .u32 (dig n 3 : Nat), .int .u32 (dig n 4 : Nat), .int .u32 (dig n 5 : Nat), .int .u32 (dig n 6 : Nat), .int .u32 (dig n 7 : Nat), .int .u32 (dig n 8 : Nat)] 43)).alloc (.cells #[.bool t, .int .u32 (dig (n + d) 0 : Nat), .int .u32 (dig (n + d) 1 : Nat), .int .u32 (dig (n + d) 2 : Nat), .int .u32 (dig (n + d) 3 : Nat), .int .u32 (dig (n + d) 4 : Nat), .int .u32 (dig (n + d) 5 : Nat), .int .u32 (dig (n + d) 6 : Nat), .int .u32 (dig (n + d) 7 : Nat), .int .u32 (dig (n + d) 8 : Nat)] 43)).alloc (.cells #[.bool false, .int .u32 0, .int .u32 0, .int .u32 0, .int .u32 0, .int .u32 0, .int .u32 0, .int .u32 0, .int .u32 0, .int .u32 0] 43)) w1 := below_on HT.out.drew (by simp) hbw
  have qc := fun o => hbt.cell (p := ⟨w.heap.size + 1 + 1, o, none⟩) (by simp)
  have qf := fun o => hbt.frozen (p := ⟨w.heap.size + 1 + 1, o, none⟩) (by simp)
  have g0 : w1.cell? ⟨w.heap.size + 1 + 1, 0, none⟩ = some (.bool false) := by rw [qc]; go_simp
  have g1 : w1.cell? ⟨w.heap.size + 1 + 1, 1, none⟩ = some (.int .u32 0) := by rw [qc]; go_simp
  have g2 : w1.cell? ⟨w.heap.size + 1 + 1, 2, none⟩ = some (.int .u32 0) := by rw [qc]; go_simp
  have g3 : w1.cell? ⟨w.heap.size + 1 + 1, 3, none⟩ = some (.int .u32 0) := by rw [qc]; go_simp
  have g4 : w1.cell? ⟨w.heap.size + 1 + 1, 4, none⟩ = some (.int .u32 0) := by rw [qc]; go_simp
  have g5 : w1.cell? ⟨w.heap.size + 1 + 1, 5, none⟩ = some (.int .u32 0) := by rw [qc]; go_simp
  have g6 : w1.cell? ⟨w.heap.size + 1 + 1, 6, none⟩ = some (.int .u32 0) := by rw [qc]; go_simp
  have g7 : w1.cell? ⟨w.heap.size + 1 + 1, 7, none⟩ = some (.int .u32 0) := by rw [qc]; go_simp
  have g8 : w1.cell? ⟨w.heap.size + 1 + 1, 8, none⟩ = some (.int .u32 0) := by rw [qc]; go_simp
  have g9 : w1.cell? ⟨w.heap.size + 1 + 1, 9, none⟩ = some (.int .u32 0) := by rw [qc]; go_simp
  have f0 : w1.frozen? ⟨w.heap.size + 1 + 1, 0, none⟩ = false := by rw [qf]; go_simp
  have f1 : w1.frozen? ⟨w.heap.size + 1 + 1, 1, none⟩ = false := by rw [qf]; go_simp
  have f2 : w1.frozen? ⟨w.heap.size + 1 + 1, 2, none⟩ = false := by rw [qf]; go_simp
  have f3 : w1.frozen? ⟨w.heap.size + 1 + 1, 3, none⟩ = false := by rw [qf]; go_simp
  have f4 : w1.frozen? ⟨w.heap.size + 1 + 1, 4, none⟩ = false := by rw [qf]; go_simp
  have f5 : w1.frozen? ⟨w.heap.size + 1 + 1, 5, none⟩ = false := by rw [qf]; go_simp
  have f6 : w1.frozen? ⟨w.heap.size + 1 + 1, 6, none⟩ = false := by rw [qf]; go_simp
  have f7 : w1.frozen? ⟨w.heap.size + 1 + 1, 7, none⟩ = false := by rw [qf]; go_simp
  have f8 : w1.frozen? ⟨w.heap.size + 1 + 1, 8, none⟩ = false := by rw [qf]; go_simp
  have f9 : w1.frozen? ⟨w.heap.size + 1 + 1, 9, none⟩ = false := by rw [qf]; go_simp
  clear qc qf
  refine hK.out _ _ ?_ (fun hHeld => ?_)
  · exact Lib.hid (hbt.mono (by omega))
  have HB := Lib.hid hbt
  clear hK K hbt hbw
  try simp only [List.getElem_toArray, List.getElem_cons_zero, List.getElem_cons_succ, Act.put, List.setIfInBounds_toArray, List.set_cons_zero, List.set_cons_succ]
  refine wpAnyH_take (i := 7) (oi := _) (v := ?_) rfl (by kernel_rfl) (by kernel_rfl) (by kernel_rfl) (fun _ _ _ h => h) (Or.inl ⟨by kernel_rfl, ?_⟩) (by assumption) ?_
  rotate_left 1
  focus (intro wq hSw; (try dsimp only at hSw); clear hSw; go_simp; (try with_reducible rfl); done)
  try simp only [List.getElem_toArray, List.getElem_cons_zero, List.getElem_cons_succ, Act.put, List.setIfInBounds_toArray, List.set_cons_zero, List.set_cons_succ]
  refine wpAnyH_ready (rs := [8]) (by kernel_rfl) (by simp) ?_
  refine AllReadyH.cons (o := _) rfl (fun K hK => ?_) AllReadyH.nil
  rw [if_pos (by kernel_rfl)]
  go_simp
  obtain ⟨wf, hwf, r0, r1, r2, r3, r4, r5, r6, r7, r8, r9, bf⟩ : ∃ wf, ((((((((((w1.setCell ⟨w.heap.size + 1 + 1, 0, none⟩ (.bool t)).setCell ⟨w.heap.size + 1 + 1, 1, none⟩ (.int .u32 (dig d 0 : Nat))).setCell ⟨w.heap.size + 1 + 1, 2, none⟩ (.int .u32 (dig d 1 : Nat))).setCell ⟨w.heap.size + 1 + 1, 3, none⟩ (.int .u32 (dig d 2 : Nat))).setCell ⟨w.heap.size + 1 + 1, 4, none⟩ (.int .u32 (dig d 3 : Nat))).setCell ⟨w.heap.size + 1 + 1, 5, none⟩ (.int .u32 (dig d 4 : Nat))).setCell ⟨w.heap.size + 1 + 1, 6, none⟩ (.int .u32 (dig d 5 : Nat))).setCell ⟨w.heap.size + 1 + 1, 7, none⟩ (.int .u32 (dig d 6 : Nat))).setCell ⟨w.heap.size + 1 + 1, 8, none⟩ (.int .u32 (dig d 7 : Nat))).setCell ⟨w.heap.size + 1 + 1, 9, none⟩ (.int .u32 (dig d 8 : Nat))) = wf ∧ wf.cell? ⟨w.heap.size + 1 + 1, 0, none⟩ = some (.bool t) ∧ wf.cell? ⟨w.heap.size + 1 + 1, 1, none⟩ = some (.int .u32 (dig d 0 : Nat)) ∧ wf.cell? ⟨w.heap.size + 1 + 1, 2, none⟩ = some (.int .u32 (dig d 1 : Nat)) ∧ wf.cell? ⟨w.heap.size + 1 + 1, 3, none⟩ = some (.int .u32 (dig d 2 : Nat)) ∧ wf.cell? ⟨w.heap.size + 1 + 1, 4, none⟩ = some (.int .u32 (dig d 3 : Nat)) ∧ wf.cell? ⟨w.heap.size + 1 + 1, 5, none⟩ = some (.int .u32 (dig d 4 : Nat)) ∧ wf.cell? ⟨w.heap.size + 1 + 1, 6, none⟩ = some (.int .u32 (dig d 5 : Nat)) ∧ wf.cell? ⟨w.heap.size + 1 + 1, 7, none⟩ = some (.int .u32 (dig d 6 : Nat)) ∧ wf.cell? ⟨w.heap.size + 1 + 1, 8, none⟩ = some (.int .u32 (dig d 7 : Nat)) ∧ wf.cell? ⟨w.heap.size + 1 + 1, 9, none⟩ = some (.int .u32 (dig d 8 : Nat)) ∧ Hid (Below (w.heap.size + 1 + 1) w1 wf) := by
    refine ⟨_, rfl, ?_, ?_, ?_, ?_, ?_, ?_, ?_, ?_, ?_, ?_, Lib.hid (by (iterate 10 (refine Below.setCell (p := ⟨w.heap.size + 1 + 1, _, none⟩) ?_ (Nat.le_refl (w.heap.size + 1 + 1)) _)); exact Below.refl _ _)⟩ <;> go_simp
  rw [hwf]
  clear hwf g0 f0 g1 f1 g2 f2 g3 f3 g4 f4 g5 f5 g6 f6 g7 f7 g8 f8 g9 f9
  refine hK.out _ _ ?_ (fun hHeld => ?_)
  · exact Lib.hid (Below.trans hHeld.out bf.out)
  /- · exact Lib.hid (by (iterate 10 (refine Below.setCell (p := ⟨w.heap.size + 1 + 1, _, none⟩) ?_ (Nat.le_refl (w.heap.size + 1 + 1)) _)); exact hHeld.out) -/
  clear hK K
  try simp only [List.getElem_toArray, List.getElem_cons_zero, List.getElem_cons_succ, Act.put, List.setIfInBounds_toArray, List.set_cons_zero, List.set_cons_succ]
  refine wpAnyH_done (by kernel_rfl) ?_ _
  go_wp2
  have fin : Below w.heap.size w w1 := Below.trans (show Below w.heap.size w (((w.alloc (.cells #[.bool s, .int .u32 (dig n 0 : Nat), .int .u32 (dig n 1 : Nat), .int .u32 (dig n 2 : Nat), .int .u32 (dig n 3 : Nat), .int .u32 (dig n 4 : Nat), .int .u32 (dig n 5 : Nat), .int .u32 (dig n 6 : Nat), .int .u32 (dig n 7 : Nat), .int .u32 (dig n 8 : Nat)] 43)).alloc (.cells #[.bool t, .int .u32 (dig (n + d) 0 : Nat), .int .u32 (dig (n + d) 1 : Nat), .int .u32 (dig (n + d) 2 : Nat), .int .u32 (dig (n + d) 3 : Nat), .int .u32 (dig (n + d) 4 : Nat), .int .u32 (dig (n + d) 5 : Nat), .int .u32 (dig (n + d) 6 : Nat), .int .u32 (dig (n + d) 7 : Nat), .int .u32 (dig (n + d) 8 : Nat)] 43)).alloc (.cells #[.bool false, .int .u32 0, .int .u32 0, .int .u32 0, .int .u32 0, .int .u32 0, .int .u32 0, .int .u32 0, .int .u32 0, .int .u32 0] 43)) by go_grown) (HB.out.mono (by omega))
  refine bodyPost_ret (v := .agg #[.bool t, .int .u32 (dig d 0 : Nat), .int .u32 (dig d 1 : Nat), .int .u32 (dig d 2 : Nat), .int .u32 (dig d 3 : Nat), .int .u32 (dig d 4 : Nat), .int .u32 (dig d 5 : Nat), .int .u32 (dig d 6 : Nat), .int .u32 (dig d 7 : Nat), .int .u32 (dig d 8 : Nat)]) (by simp [results, Try.results31, go_sem, r0, r1, r2, r3, r4, r5, r6, r7, r8, r9]) rfl ⟨rfl, Below.trans fin (bf.out.mono (by omega))⟩

end Go.Proofs.Ytplbdfdpcgmcjaa
