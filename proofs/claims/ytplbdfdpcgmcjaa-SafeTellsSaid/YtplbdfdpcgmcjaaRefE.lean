/- Contracts of the document's own answer for layer 1: bounds. -/
import Derived.Test.YtplbdfdpcgmcjaaRefD
import Derived.Test.YtplbdfdpcgmcjaaLaw4
import Derived.KernelRfl
namespace Go.Proofs.Ytplbdfdpcgmcjaa
set_option linter.unusedVariables false
set_option linter.unusedSimpArgs false
open Go.ChangeShapes Go.WideShapes Go.ChangeAt Go.RowKit

set_option maxRecDepth 100000 in
theorem rright_any (i n : Int) (w : World) :
    Calls Try.prog 41 #[.agg #[.int .i8 i, .int .i64 n]] w fun e w' => e = .returned (.bool (rightB i n)) ∧ w.alloc (.cells #[.int .i8 i, .int .i64 n] 31) = w' := by
  by_cases c0 : i = 0
  · subst c0
    go_enter Try.func41, Try.ntmps41
    go_wp2
    go_ret
    exact ⟨ret_bool (by simp [rightB]), rfl⟩
  · by_cases z : n = 0
    · subst z
      by_cases c1 : i = 1
      · subst c1
        go_enter Try.func41, Try.ntmps41
        go_wp2
        go_ret
        exact ⟨ret_bool (by simp [rightB]), rfl⟩
      · by_cases c2 : i = -1
        · subst c2
          go_enter Try.func41, Try.ntmps41
          go_wp2
          go_ret
          exact ⟨ret_bool (by simp [rightB]), rfl⟩
        · go_enter Try.func41, Try.ntmps41
          go_wp2
          go_ret
          have q0 : (i == 0) = false := by simpa using c0
          have q1 : (i == 1) = false := by simpa using c1
          have q2 : (i == -1) = false := by simpa using c2
          exact ⟨ret_bool (by simp [rightB, q0, q1, q2]), rfl⟩
    · go_enter Try.func41, Try.ntmps41
      go_wp2
      go_ret
      exact ⟨ret_bool (by simp [rightB, c0, z]), rfl⟩
theorem rright_is (i n : Int) (b : Bool) (w : World) (h : rightB i n = b) :
    Calls Try.prog 41 #[.agg #[.int .i8 i, .int .i64 n]] w fun e w' => e = .returned (.bool b) ∧ w.alloc (.cells #[.int .i8 i, .int .i64 n] 31) = w' := by
  have r := rright_any i n w
  rw [h] at r
  exact r
theorem rRight_is (i n : Int) (b : Bool) (h : rightB i n = b) (w : World) :
    Calls Try.prog 27 #[.agg #[.int .i8 i, .int .i64 n]] w fun e w' => e = .returned (.bool b) ∧ Below w.heap.size w w' := by
  have R := Lib.hid (fun w => rright_is i n b w h)
  clear h
  go_enter Try.func27, Try.ntmps27
  go_wp2_with (go_at_call 41; (with_reducible refine (R.out _).mono ?_); rintro e w' ⟨rfl, rfl⟩)
  go_returns
  exact ⟨rfl, by go_grown⟩

theorem rsum_arg (i n j m : Int) (w : World) (h : rightB i n = false ∨ rightB j m = false) :
    Calls Try.prog 23 #[.agg #[.int .i8 i, .int .i64 n], .agg #[.int .i8 j, .int .i64 m]] w fun e w' => e = .returned (.tuple #[.agg #[.int .i8 0, .int .i64 0], .int .i64 2]) ∧ Below w.heap.size w w' := by
  by_cases r : rightB i n = false
  · have R := Lib.hid (fun w => rright_is i n false w r)
    clear r h
    go_enter Try.func23, Try.ntmps23
    go_wp2_with (first | (go_at_call 41; (with_reducible refine (R.out _).mono ?_); rintro e w' ⟨rfl, rfl⟩))
    go_returns
    exact ⟨rfl, by go_grown⟩
  · have R := Lib.hid (fun w => rright_is i n true w (by simpa using r))
    have R2 := Lib.hid (fun w => rright_is j m false w (h.resolve_left r))
    clear r h
    go_enter Try.func23, Try.ntmps23
    go_wp2_with (first | (go_at_call 41; (with_reducible refine (R.out _).mono ?_); rintro e w' ⟨rfl, rfl⟩) | (go_at_call 41; (with_reducible refine (R2.out _).mono ?_); rintro e w' ⟨rfl, rfl⟩))
    go_returns
    exact ⟨rfl, by go_grown⟩

theorem rsum_zp (n : Int) (w : World) :
    Calls Try.prog 23 #[.agg #[.int .i8 0, .int .i64 n], .agg #[.int .i8 1, .int .i64 0]] w fun e w' => e = .returned (.tuple #[.agg #[.int .i8 1, .int .i64 0], .int .i64 0]) ∧ Below w.heap.size w w' := by
  have R := Lib.hid (fun w => rright_is 0 n true w (by simp [rightB]))
  have R2 := Lib.hid (fun w => rright_is 1 0 true w (by simp [rightB]))
  go_enter Try.func23, Try.ntmps23
  go_wp2_with (first | (go_at_call 41; (with_reducible refine (R.out _).mono ?_); rintro e w' ⟨rfl, rfl⟩) | (go_at_call 41; (with_reducible refine (R2.out _).mono ?_); rintro e w' ⟨rfl, rfl⟩))
  go_returns
  exact ⟨rfl, by go_grown⟩

theorem rsum_zm (n : Int) (w : World) :
    Calls Try.prog 23 #[.agg #[.int .i8 0, .int .i64 n], .agg #[.int .i8 (-1), .int .i64 0]] w fun e w' => e = .returned (.tuple #[.agg #[.int .i8 (-1), .int .i64 0], .int .i64 0]) ∧ Below w.heap.size w w' := by
  have R := Lib.hid (fun w => rright_is 0 n true w (by simp [rightB]))
  have R2 := Lib.hid (fun w => rright_is (-1) 0 true w (by simp [rightB]))
  go_enter Try.func23, Try.ntmps23
  go_wp2_with (first | (go_at_call 41; (with_reducible refine (R.out _).mono ?_); rintro e w' ⟨rfl, rfl⟩) | (go_at_call 41; (with_reducible refine (R2.out _).mono ?_); rintro e w' ⟨rfl, rfl⟩))
  go_returns
  exact ⟨rfl, by go_grown⟩

theorem rsum_pz (m : Int) (w : World) :
    Calls Try.prog 23 #[.agg #[.int .i8 1, .int .i64 0], .agg #[.int .i8 0, .int .i64 m]] w fun e w' => e = .returned (.tuple #[.agg #[.int .i8 1, .int .i64 0], .int .i64 0]) ∧ Below w.heap.size w w' := by
  have R := Lib.hid (fun w => rright_is 1 0 true w (by simp [rightB]))
  have R2 := Lib.hid (fun w => rright_is 0 m true w (by simp [rightB]))
  go_enter Try.func23, Try.ntmps23
  go_wp2_with (first | (go_at_call 41; (with_reducible refine (R.out _).mono ?_); rintro e w' ⟨rfl, rfl⟩) | (go_at_call 41; (with_reducible refine (R2.out _).mono ?_); rintro e w' ⟨rfl, rfl⟩))
  go_returns
  exact ⟨rfl, by go_grown⟩

theorem rsum_mz (m : Int) (w : World) :
    Calls Try.prog 23 #[.agg #[.int .i8 (-1), .int .i64 0], .agg #[.int .i8 0, .int .i64 m]] w fun e w' => e = .returned (.tuple #[.agg #[.int .i8 (-1), .int .i64 0], .int .i64 0]) ∧ Below w.heap.size w w' := by
  have R := Lib.hid (fun w => rright_is (-1) 0 true w (by simp [rightB]))
  have R2 := Lib.hid (fun w => rright_is 0 m true w (by simp [rightB]))
  go_enter Try.func23, Try.ntmps23
  go_wp2_with (first | (go_at_call 41; (with_reducible refine (R.out _).mono ?_); rintro e w' ⟨rfl, rfl⟩) | (go_at_call 41; (with_reducible refine (R2.out _).mono ?_); rintro e w' ⟨rfl, rfl⟩))
  go_returns
  exact ⟨rfl, by go_grown⟩

theorem rsum_pp (w : World) :
    Calls Try.prog 23 #[.agg #[.int .i8 1, .int .i64 0], .agg #[.int .i8 1, .int .i64 0]] w fun e w' => e = .returned (.tuple #[.agg #[.int .i8 1, .int .i64 0], .int .i64 0]) ∧ Below w.heap.size w w' := by
  have R := Lib.hid (fun w => rright_is 1 0 true w (by simp [rightB]))
  have R2 := Lib.hid (fun w => rright_is 1 0 true w (by simp [rightB]))
  go_enter Try.func23, Try.ntmps23
  go_wp2_with (first | (go_at_call 41; (with_reducible refine (R.out _).mono ?_); rintro e w' ⟨rfl, rfl⟩) | (go_at_call 41; (with_reducible refine (R2.out _).mono ?_); rintro e w' ⟨rfl, rfl⟩))
  go_returns
  exact ⟨rfl, by go_grown⟩

theorem rsum_mm (w : World) :
    Calls Try.prog 23 #[.agg #[.int .i8 (-1), .int .i64 0], .agg #[.int .i8 (-1), .int .i64 0]] w fun e w' => e = .returned (.tuple #[.agg #[.int .i8 (-1), .int .i64 0], .int .i64 0]) ∧ Below w.heap.size w w' := by
  have R := Lib.hid (fun w => rright_is (-1) 0 true w (by simp [rightB]))
  have R2 := Lib.hid (fun w => rright_is (-1) 0 true w (by simp [rightB]))
  go_enter Try.func23, Try.ntmps23
  go_wp2_with (first | (go_at_call 41; (with_reducible refine (R.out _).mono ?_); rintro e w' ⟨rfl, rfl⟩) | (go_at_call 41; (with_reducible refine (R2.out _).mono ?_); rintro e w' ⟨rfl, rfl⟩))
  go_returns
  exact ⟨rfl, by go_grown⟩

theorem rsum_pm (w : World) :
    Calls Try.prog 23 #[.agg #[.int .i8 1, .int .i64 0], .agg #[.int .i8 (-1), .int .i64 0]] w fun e w' => e = .returned (.tuple #[.agg #[.int .i8 0, .int .i64 0], .int .i64 10]) ∧ Below w.heap.size w w' := by
  have R := Lib.hid (fun w => rright_is 1 0 true w (by simp [rightB]))
  have R2 := Lib.hid (fun w => rright_is (-1) 0 true w (by simp [rightB]))
  go_enter Try.func23, Try.ntmps23
  go_wp2_with (first | (go_at_call 41; (with_reducible refine (R.out _).mono ?_); rintro e w' ⟨rfl, rfl⟩) | (go_at_call 41; (with_reducible refine (R2.out _).mono ?_); rintro e w' ⟨rfl, rfl⟩))
  go_returns
  exact ⟨rfl, by go_grown⟩

theorem rsum_mp (w : World) :
    Calls Try.prog 23 #[.agg #[.int .i8 (-1), .int .i64 0], .agg #[.int .i8 1, .int .i64 0]] w fun e w' => e = .returned (.tuple #[.agg #[.int .i8 0, .int .i64 0], .int .i64 10]) ∧ Below w.heap.size w w' := by
  have R := Lib.hid (fun w => rright_is (-1) 0 true w (by simp [rightB]))
  have R2 := Lib.hid (fun w => rright_is 1 0 true w (by simp [rightB]))
  go_enter Try.func23, Try.ntmps23
  go_wp2_with (first | (go_at_call 41; (with_reducible refine (R.out _).mono ?_); rintro e w' ⟨rfl, rfl⟩) | (go_at_call 41; (with_reducible refine (R2.out _).mono ?_); rintro e w' ⟨rfl, rfl⟩))
  go_returns
  exact ⟨rfl, by go_grown⟩

theorem rsum_zz (n m x e : Int) (A : ∀ w, Calls Try.prog 10 #[.int .i64 n, .int .i64 m] w fun e' w' => e' = .returned (.tuple #[.int .i64 x, .int .i64 e]) ∧ Below w.heap.size w w') (w : World) :
    Calls Try.prog 23 #[.agg #[.int .i8 0, .int .i64 n], .agg #[.int .i8 0, .int .i64 m]] w fun e' w' => e' = .returned (.tuple #[.agg #[.int .i8 0, .int .i64 x], .int .i64 e]) ∧ Below w.heap.size w w' := by
  have R := Lib.hid (fun w => rright_is 0 n true w (by simp [rightB]))
  have R2 := Lib.hid (fun w => rright_is 0 m true w (by simp [rightB]))
  have A := Lib.hid A
  go_enter Try.func23, Try.ntmps23
  go_wp2_with (first | (go_at_call 41; (with_reducible refine (R.out _).mono ?_); rintro e w' ⟨rfl, rfl⟩) | (go_at_call 41; (with_reducible refine (R2.out _).mono ?_); rintro e w' ⟨rfl, rfl⟩))
  go_at_call 10
  with_reducible refine (A.out _).mono ?_
  rintro e' w1 ⟨rfl, hbw⟩
  have hsz := hbw.size; obtain ⟨hc, hf⟩ := bcell hbw
  have g0 : w1.cell? ⟨w.heap.size + 1 + 1, 0, none⟩ = some (.int .i8 0) := by (rw [hc _ _ (by simp <;> omega)]; go_simp)
  have g1 : w1.cell? ⟨w.heap.size + 1 + 1, 1, none⟩ = some (.int .i64 0) := by (rw [hc _ _ (by simp <;> omega)]; go_simp)
  have f0 : w1.frozen? ⟨w.heap.size + 1 + 1, 0, none⟩ = false := by (rw [hf _ _ (by simp <;> omega)]; go_simp)
  have f1 : w1.frozen? ⟨w.heap.size + 1 + 1, 1, none⟩ = false := by (rw [hf _ _ (by simp <;> omega)]; go_simp)
  have HB := Lib.hid hbw
  clear hc hf hbw hsz
  go_wp2
  have fin : Below w.heap.size w w1 := below_on (show Below w.heap.size w _ by go_grown) (Nat.le_refl _) HB.out
  refine bodyPost_ret (v := .tuple #[.agg #[.int .i8 0, .int .i64 x], .int .i64 e]) (by simp [results, Try.results23, go_sem, g0, g1]) rfl ⟨rfl, ?_⟩
  exact Below.setCell (p := ⟨w.heap.size + 1 + 1, _, none⟩) (Below.setCell (p := ⟨w.heap.size + 1 + 1, _, none⟩) fin (by show w.heap.size ≤ w.heap.size + 1 + 1; omega) _) (by show w.heap.size ≤ w.heap.size + 1 + 1; omega) _

set_option maxHeartbeats 4000000 in
theorem rsub_go (a b : Int) (w : World) (ha1 : -9223372036854775808 ≤ a) (ha2 : a ≤ 9223372036854775807) (hb1 : -9223372036854775808 ≤ b) (hb2 : b ≤ 9223372036854775807) (x y : Int)
    (S : Summed (decide (a < 0)) (!decide (b < 0)) a.natAbs b.natAbs (.returned (.tuple #[.int .i64 x, .int .i64 y]))) :
    Calls Try.prog 12 #[.int .i64 a, .int .i64 b] w fun e w' => e = .returned (.tuple #[.int .i64 x, .int .i64 y]) ∧ Below w.heap.size w w' := by
  obtain ⟨u, k, S1, S2⟩ := S.go
  have A := Lib.hid (fun w => of_any a w ha1 ha2)
  have B := Lib.hid (fun w => of_any b w hb1 hb2)
  have S1 := Lib.hid S1
  have S2 := Lib.hid S2
  go_enter Try.func12, Try.ntmps12
  go_wp2_with (go_at_call 32; (with_reducible refine (B.out _).mono ?_); rintro e wb ⟨rfl, hbb⟩; have H1 := Lib.hid hbb; clear hbb)
  refine wp_region_held_drew (S := (fun W => Hid (Below (wb.heap.size + 1) (wb.alloc (.cells #[.bool (!decide (b < 0)), .int .u32 (Long.dig b.natAbs 0 : Nat), .int .u32 (Long.dig b.natAbs 1 : Nat), .int .u32 (Long.dig b.natAbs 2 : Nat), .int .u32 (Long.dig b.natAbs 3 : Nat), .int .u32 (Long.dig b.natAbs 4 : Nat), .int .u32 (Long.dig b.natAbs 5 : Nat), .int .u32 (Long.dig b.natAbs 6 : Nat), .int .u32 (Long.dig b.natAbs 7 : Nat), .int .u32 (Long.dig b.natAbs 8 : Nat)] 43)) W))) (by kernel_rfl) ?_ (fun hHeld => ?_)
  · exact Lib.hid (Below.refl _ _).drew
  refine wpAnyH_take (i := 0) (oi := _) (v := ?_) rfl (by kernel_rfl) (by kernel_rfl) (by kernel_rfl) (fun _ _ _ h => h) (Or.inl ⟨by kernel_rfl, ?_⟩) (by assumption) ?_
  rotate_left 1
  focus (intro wq hSw; (try dsimp only at hSw); have q0 := fun o => hSw.out.cell (p := ⟨wb.heap.size, o, none⟩) (by show wb.heap.size < wb.heap.size + 1; omega); clear hSw; go_simp; (try with_reducible rfl); done)
  try simp only [List.getElem_toArray, List.getElem_cons_zero, List.getElem_cons_succ, Act.put, List.setIfInBounds_toArray, List.set_cons_zero, List.set_cons_succ]
  refine wpAnyH_take (i := 2) (oi := _) (v := ?_) rfl (by kernel_rfl) (by kernel_rfl) (by kernel_rfl) (fun _ _ _ h => h) (Or.inl ⟨by kernel_rfl, ?_⟩) (by assumption) ?_
  rotate_left 1
  focus (intro wq hSw; (try dsimp only at hSw); have q0 := fun o => hSw.out.cell (p := ⟨wb.heap.size, o, none⟩) (by show wb.heap.size < wb.heap.size + 1; omega); clear hSw; go_simp; (try with_reducible rfl); done)
  try simp only [List.getElem_toArray, List.getElem_cons_zero, List.getElem_cons_succ, Act.put, List.setIfInBounds_toArray, List.set_cons_zero, List.set_cons_succ]
  refine wpAnyH_ready (rs := [1]) (by kernel_rfl) (by simp) ?_
  refine AllReadyH.cons (o := _) rfl (fun K hK => ?_) AllReadyH.nil
  rw [if_pos (by kernel_rfl)]
  go_simp
  (go_at_call 32; (with_reducible refine (A.out _).mono ?_); rintro e w2 ⟨rfl, hbw⟩)
  refine hK.out _ _ ?_ (fun hHeld => ?_)
  · exact Lib.hid (below_on hHeld.out (by simp) hbw)
  have H2 := Lib.hid hbw
  clear hK K hbw
  try simp only [List.getElem_toArray, List.getElem_cons_zero, List.getElem_cons_succ, Act.put, List.setIfInBounds_toArray, List.set_cons_zero, List.set_cons_succ]

  refine wpAnyH_ready (rs := [3]) (by kernel_rfl) (by simp) ?_
  refine AllReadyH.cons (o := _) rfl (fun K hK => ?_) AllReadyH.nil
  rw [if_pos (by kernel_rfl)]
  go_simp
  (go_at_call 31; (with_reducible refine (S1.out _).mono ?_); rintro e w3 ⟨rfl, hbw⟩)
  refine hK.out _ _ ?_ (fun hHeld => ?_)
  · exact Lib.hid (below_on hHeld.out (by simp) hbw)
  have H3 := Lib.hid hbw
  clear hK K hbw
  try simp only [List.getElem_toArray, List.getElem_cons_zero, List.getElem_cons_succ, Act.put, List.setIfInBounds_toArray, List.set_cons_zero, List.set_cons_succ]

  refine wpAnyH_ready (rs := [4]) (by kernel_rfl) (by simp) ?_
  refine AllReadyH.cons (o := _) rfl (fun K hK => ?_) AllReadyH.nil
  rw [if_pos (by kernel_rfl)]
  go_simp
  (go_at_call 30; (with_reducible refine (S2.out _).mono ?_); rintro e w4 ⟨rfl, hbw⟩)
  refine hK.out _ _ ?_ (fun hHeld => ?_)
  · exact Lib.hid (below_on hHeld.out (by simp) hbw)
  have H4 := Lib.hid hbw
  clear hK K hbw
  try simp only [List.getElem_toArray, List.getElem_cons_zero, List.getElem_cons_succ, Act.put, List.setIfInBounds_toArray, List.set_cons_zero, List.set_cons_succ]

  refine wpAnyH_take (i := 5) (oi := _) (v := ?_) rfl (by kernel_rfl) (by kernel_rfl) (by kernel_rfl) (fun _ _ _ h => h) (Or.inl ⟨by kernel_rfl, ?_⟩) (by assumption) ?_
  rotate_left 1
  focus (intro wq hSw; (try dsimp only at hSw); have q0 := fun o => hSw.out.cell (p := ⟨wb.heap.size, o, none⟩) (by show wb.heap.size < wb.heap.size + 1; omega); clear hSw; go_simp; (try with_reducible rfl); done)
  try simp only [List.getElem_toArray, List.getElem_cons_zero, List.getElem_cons_succ, Act.put, List.setIfInBounds_toArray, List.set_cons_zero, List.set_cons_succ]
  refine wpAnyH_take (i := 6) (oi := _) (v := ?_) rfl (by kernel_rfl) (by kernel_rfl) (by kernel_rfl) (fun _ _ _ h => h) (Or.inl ⟨by kernel_rfl, ?_⟩) (by assumption) ?_
  rotate_left 1
  focus (intro wq hSw; (try dsimp only at hSw); have q0 := fun o => hSw.out.cell (p := ⟨wb.heap.size, o, none⟩) (by show wb.heap.size < wb.heap.size + 1; omega); clear hSw; go_simp; (try with_reducible rfl); done)
  try simp only [List.getElem_toArray, List.getElem_cons_zero, List.getElem_cons_succ, Act.put, List.setIfInBounds_toArray, List.set_cons_zero, List.set_cons_succ]
  refine wpAnyH_take (i := 7) (oi := _) (v := ?_) rfl (by kernel_rfl) (by kernel_rfl) (by kernel_rfl) (fun _ _ _ h => h) (Or.inl ⟨by kernel_rfl, ?_⟩) (by assumption) ?_
  rotate_left 1
  focus (intro wq hSw; (try dsimp only at hSw); have q0 := fun o => hSw.out.cell (p := ⟨wb.heap.size, o, none⟩) (by show wb.heap.size < wb.heap.size + 1; omega); clear hSw; go_simp; (try with_reducible rfl); done)
  try simp only [List.getElem_toArray, List.getElem_cons_zero, List.getElem_cons_succ, Act.put, List.setIfInBounds_toArray, List.set_cons_zero, List.set_cons_succ]
  refine wpAnyH_take (i := 8) (oi := _) (v := ?_) rfl (by kernel_rfl) (by kernel_rfl) (by kernel_rfl) (fun _ _ _ h => h) (Or.inl ⟨by kernel_rfl, ?_⟩) (by assumption) ?_
  rotate_left 1
  focus (intro wq hSw; (try dsimp only at hSw); have q0 := fun o => hSw.out.cell (p := ⟨wb.heap.size, o, none⟩) (by show wb.heap.size < wb.heap.size + 1; omega); clear hSw; go_simp; (try with_reducible rfl); done)
  try simp only [List.getElem_toArray, List.getElem_cons_zero, List.getElem_cons_succ, Act.put, List.setIfInBounds_toArray, List.set_cons_zero, List.set_cons_succ]
  refine wpAnyH_done (by kernel_rfl) ?_ _
  go_wp2
  go_returns
  exact ⟨rfl, Below.trans (H1.out.alloc H1.out.size _) (hHeld.out.mono (by have := H1.out.size; omega))⟩

theorem rsub_any (a b : Int) (ha1 : -9223372036854775808 ≤ a) (ha2 : a ≤ 9223372036854775807) (hb1 : -9223372036854775808 ≤ b) (hb2 : b ≤ 9223372036854775807) :
    (∀ w, -9223372036854775808 ≤ a - b → a - b ≤ 9223372036854775807 → Calls Try.prog 12 #[.int .i64 a, .int .i64 b] w fun e w' => e = .returned (.tuple #[.int .i64 (a - b), .int .i64 0]) ∧ Below w.heap.size w w') ∧
    (∀ w, (a - b < -9223372036854775808 ∨ 9223372036854775807 < a - b) → Calls Try.prog 12 #[.int .i64 a, .int .i64 b] w fun e w' => e = .returned (.tuple #[.int .i64 0, .int .i64 10]) ∧ Below w.heap.size w w') := by
  have sa : decide (a < 0) = true → a ≤ 0 := fun h => by simp at h; omega
  have sa' : decide (a < 0) = false → 0 ≤ a := fun h => by simp at h; omega
  have sb : (!decide (b < 0)) = true → -b ≤ 0 := fun h => by simp at h; omega
  have sb' : (!decide (b < 0)) = false → 0 ≤ -b := fun h => by simp at h; omega
  refine ⟨fun w h1 h2 => ?_, fun w h => ?_⟩
  · have s := summed_ok a (-b) ha1 (by omega) (by omega) (by omega) _ _ _ _ sa sa' sb sb' rfl (Int.natAbs_neg b) (by omega) (by omega)
    rw [show a + -b = a - b by omega] at s
    exact rsub_go a b w ha1 ha2 hb1 hb2 _ _ s
  · exact rsub_go a b w ha1 ha2 hb1 hb2 _ _ (summed_over a (-b) ha1 (by omega) (by omega) (by omega) _ _ _ _ sa sa' sb sb' rfl (Int.natAbs_neg b) (by omega))

theorem rminus_arg (i n : Int) (h : rightB i n = false) (w : World) :
    Calls Try.prog 25 #[.agg #[.int .i8 i, .int .i64 n]] w fun e w' => e = .returned (.tuple #[.agg #[.int .i8 0, .int .i64 0], .int .i64 2]) ∧ Below w.heap.size w w' := by
  have R := Lib.hid (fun w => rright_is i n false w h)
  clear h
  go_enter Try.func25, Try.ntmps25
  go_wp2_with ((go_at_call 41; (with_reducible refine (R.out _).mono ?_); rintro e w' ⟨rfl, rfl⟩))
  go_returns
  exact ⟨rfl, by go_grown⟩
theorem rminus_p (w : World) :
    Calls Try.prog 25 #[.agg #[.int .i8 1, .int .i64 0]] w fun e w' => e = .returned (.tuple #[.agg #[.int .i8 (-1), .int .i64 0], .int .i64 0]) ∧ Below w.heap.size w w' := by
  have R := Lib.hid (fun w => rright_is 1 0 true w (by simp [rightB]))
  go_enter Try.func25, Try.ntmps25
  go_wp2_with ((go_at_call 41; (with_reducible refine (R.out _).mono ?_); rintro e w' ⟨rfl, rfl⟩))
  go_returns
  exact ⟨rfl, by go_grown⟩
theorem rminus_m (w : World) :
    Calls Try.prog 25 #[.agg #[.int .i8 (-1), .int .i64 0]] w fun e w' => e = .returned (.tuple #[.agg #[.int .i8 1, .int .i64 0], .int .i64 0]) ∧ Below w.heap.size w w' := by
  have R := Lib.hid (fun w => rright_is (-1) 0 true w (by simp [rightB]))
  go_enter Try.func25, Try.ntmps25
  go_wp2_with ((go_at_call 41; (with_reducible refine (R.out _).mono ?_); rintro e w' ⟨rfl, rfl⟩))
  go_returns
  exact ⟨rfl, by go_grown⟩
theorem rminus_z (n x e : Int) (A : ∀ w, Calls Try.prog 12 #[.int .i64 0, .int .i64 n] w fun e' w' => e' = .returned (.tuple #[.int .i64 x, .int .i64 e]) ∧ Below w.heap.size w w') (w : World) :
    Calls Try.prog 25 #[.agg #[.int .i8 0, .int .i64 n]] w fun e' w' => e' = .returned (.tuple #[.agg #[.int .i8 0, .int .i64 x], .int .i64 e]) ∧ Below w.heap.size w w' := by
  have R := Lib.hid (fun w => rright_is 0 n true w (by simp [rightB]))
  have A := Lib.hid A
  go_enter Try.func25, Try.ntmps25
  go_wp2_with ((go_at_call 41; (with_reducible refine (R.out _).mono ?_); rintro e w' ⟨rfl, rfl⟩))
  go_at_call 12
  with_reducible refine (A.out _).mono ?_
  rintro e' w1 ⟨rfl, hbw⟩
  have hsz := hbw.size; obtain ⟨hc, hf⟩ := bcell hbw
  have g0 : w1.cell? ⟨w.heap.size + 1, 0, none⟩ = some (.int .i8 0) := by (rw [hc _ _ (by simp <;> omega)]; go_simp)
  have g1 : w1.cell? ⟨w.heap.size + 1, 1, none⟩ = some (.int .i64 0) := by (rw [hc _ _ (by simp <;> omega)]; go_simp)
  have f0 : w1.frozen? ⟨w.heap.size + 1, 0, none⟩ = false := by (rw [hf _ _ (by simp <;> omega)]; go_simp)
  have f1 : w1.frozen? ⟨w.heap.size + 1, 1, none⟩ = false := by (rw [hf _ _ (by simp <;> omega)]; go_simp)
  have HB := Lib.hid hbw
  clear hc hf hbw hsz
  go_wp2
  have fin : Below w.heap.size w w1 := below_on (show Below w.heap.size w _ by go_grown) (Nat.le_refl _) HB.out
  refine bodyPost_ret (v := .tuple #[.agg #[.int .i8 0, .int .i64 x], .int .i64 e]) (by simp [results, Try.results25, go_sem, g0, g1]) rfl ⟨rfl, ?_⟩
  exact Below.setCell (p := ⟨w.heap.size + 1, _, none⟩) (Below.setCell (p := ⟨w.heap.size + 1, _, none⟩) fin (by show w.heap.size ≤ w.heap.size + 1; omega) _) (by show w.heap.size ≤ w.heap.size + 1; omega) _

theorem rless_any (i n j m : Int) (w : World) :
    Calls Try.prog 29 #[.agg #[.int .i8 i, .int .i64 n], .agg #[.int .i8 j, .int .i64 m]] w fun e w' => e = .returned (.bool (lessB i n j m)) ∧ Below w.heap.size w w' := by
  by_cases r : rightB i n = false
  · have HL := Lib.hid (show lessB i n j m = false by simp [lessB, r])
    have R := Lib.hid (fun w => rright_is i n false w r)
    clear r
    go_enter Try.func29, Try.ntmps29
    go_wp2_with ((go_at_call 41; (with_reducible refine (R.out _).mono ?_); rintro e w' ⟨rfl, rfl⟩))
    go_returns
    exact ⟨ret_bool HL.out.symm, by go_grown⟩
  · have r' : rightB i n = true := by simpa using r
    have R := Lib.hid (fun w => rright_is i n true w r')
    by_cases r2 : rightB j m = false
    · have HL := Lib.hid (show lessB i n j m = false by simp [lessB, r2])
      have R2 := Lib.hid (fun w => rright_is j m false w r2)
      clear r r2 r'
      go_enter Try.func29, Try.ntmps29
      go_wp2_with (first | (go_at_call 41; (with_reducible refine (R.out _).mono ?_); rintro e w' ⟨rfl, rfl⟩) | (go_at_call 41; (with_reducible refine (R2.out _).mono ?_); rintro e w' ⟨rfl, rfl⟩))
      go_returns
      exact ⟨ret_bool HL.out.symm, by go_grown⟩
    · have r2' : rightB j m = true := by simpa using r2
      have R2 := Lib.hid (fun w => rright_is j m true w r2')
      have ri := (rightB_iff i n).1 r'
      have rj := (rightB_iff j m).1 r2'
      by_cases c : i = 0
      · subst c
        by_cases d : j = 0
        · subst d
          have HL := Lib.hid (show lessB 0 n 0 m = decide (n < m) by simp [lessB, r', r2'])
          clear r r2 r' r2' ri rj
          go_enter Try.func29, Try.ntmps29
          go_wp2_with (first | (go_at_call 41; (with_reducible refine (R.out _).mono ?_); rintro e w' ⟨rfl, rfl⟩) | (go_at_call 41; (with_reducible refine (R2.out _).mono ?_); rintro e w' ⟨rfl, rfl⟩))
          go_returns
          exact ⟨ret_bool HL.out.symm, by go_grown⟩
        · have HL := Lib.hid (show lessB 0 n j m = decide (0 < j) by unfold lessB; rw [r', r2', if_neg (by omega)]; rfl)
          have d0 : (j == 0) = false := by simpa using d
          clear r r2 r' r2' ri rj d
          go_enter Try.func29, Try.ntmps29
          go_wp2_with (first | (go_at_call 41; (with_reducible refine (R.out _).mono ?_); rintro e w' ⟨rfl, rfl⟩) | (go_at_call 41; (with_reducible refine (R2.out _).mono ?_); rintro e w' ⟨rfl, rfl⟩))
          go_returns
          exact ⟨ret_bool HL.out.symm, by go_grown⟩
      · have HL := Lib.hid (show lessB i n j m = decide (i < j) by
          unfold lessB; rw [r', r2']
          by_cases e : i = j
          · rw [if_pos e]; simp; omega
          · rw [if_neg e]; rfl)
        have c0 : (i == 0) = false := by simpa using c
        clear r r2 r' r2' ri rj c
        go_enter Try.func29, Try.ntmps29
        go_wp2_with (first | (go_at_call 41; (with_reducible refine (R.out _).mono ?_); rintro e w' ⟨rfl, rfl⟩) | (go_at_call 41; (with_reducible refine (R2.out _).mono ?_); rintro e w' ⟨rfl, rfl⟩))
        go_returns
        exact ⟨ret_bool HL.out.symm, by go_grown⟩
end Go.Proofs.Ytplbdfdpcgmcjaa
