/- The walk of the law SafeOrder: for every three bounds it answers true. -/
import Derived.Test.YtplbdfdpcgmcjaaFn6
import Derived.Deep.RegionHeld3
namespace Go.Proofs.Ytplbdfdpcgmcjaa
set_option linter.unusedVariables false
open Go.ChangeShapes Go.WideShapes Go.ChangeAt Go.RowKit

/-- The three bounds lie where the law laid them; below them nothing has turned. -/
structure Ord (w : World) (i n j m k l : Int) (W : World) : Prop where
  cells : W.cell? ⟨w.heap.size, 0, none⟩ = some (.int .i8 i) ∧ W.cell? ⟨w.heap.size, 1, none⟩ = some (.int .i64 n) ∧ W.cell? ⟨w.heap.size + 1, 0, none⟩ = some (.int .i8 j) ∧ W.cell? ⟨w.heap.size + 1, 1, none⟩ = some (.int .i64 m) ∧ W.cell? ⟨w.heap.size + 1 + 1, 0, none⟩ = some (.int .i8 k) ∧ W.cell? ⟨w.heap.size + 1 + 1, 1, none⟩ = some (.int .i64 l)
  below : Below w.heap.size w W
  size : w.heap.size + 3 ≤ W.heap.size

theorem Ord.keep {w W W' : World} {i n j m k l : Int} (h : Ord w i n j m k l W) (b : Below W.heap.size W W') : Ord w i n j m k l W' := by
  obtain ⟨⟨a0, a1, b0, b1, c0, c1⟩, B, z⟩ := h
  refine ⟨⟨?_, ?_, ?_, ?_, ?_, ?_⟩, B.trans (b.mono (by omega)), Nat.le_trans z b.size⟩
  · rw [b.cell (p := ⟨w.heap.size, 0, none⟩) (by show w.heap.size < _; omega)]; exact a0
  · rw [b.cell (p := ⟨w.heap.size, 1, none⟩) (by show w.heap.size < _; omega)]; exact a1
  · rw [b.cell (p := ⟨w.heap.size + 1, 0, none⟩) (by show w.heap.size + 1 < _; omega)]; exact b0
  · rw [b.cell (p := ⟨w.heap.size + 1, 1, none⟩) (by show w.heap.size + 1 < _; omega)]; exact b1
  · rw [b.cell (p := ⟨w.heap.size + 1 + 1, 0, none⟩) (by show w.heap.size + 1 + 1 < _; omega)]; exact c0
  · rw [b.cell (p := ⟨w.heap.size + 1 + 1, 1, none⟩) (by show w.heap.size + 1 + 1 < _; omega)]; exact c1
theorem Ord.al {w W : World} {i n j m k l : Int} (h : Ord w i n j m k l W) (o : Obj) : Ord w i n j m k l (W.alloc o) := h.keep ((Below.refl _ W).alloc (Nat.le_refl _) o)

theorem Ord.dr {w W : World} {i n j m k l : Int} (h : Ord w i n j m k l W) : Ord w i n j m k l W.drew := h.keep (below_drewN' (Below.refl _ _) 1)

theorem Ord.start (w : World) (i n j m k l : Int) : Ord w i n j m k l (((w.alloc (.cells #[.int .i8 i, .int .i64 n] 31)).alloc (.cells #[.int .i8 j, .int .i64 m] 31)).alloc (.cells #[.int .i8 k, .int .i64 l] 31)) := by
  refine ⟨⟨by go_simp, by go_simp, by go_simp, by go_simp, by go_simp, by go_simp⟩, by go_grown, by simp⟩

/-- A call's contract, over worlds in which the bounds lie. -/
abbrev OrdCall (w : World) (i n j m k l : Int) (f : Nat) (vs : Array Value) (r : Ending) : Prop := Hid (∀ W, Ord w i n j m k l W → Calls Try.prog f vs W fun e w' => e = r ∧ Hid (Ord w i n j m k l w') ∧ Hid (Below W.heap.size W w') ∧ w'.cell? ⟨w.heap.size, 0, none⟩ = some (.int .i8 i) ∧ w'.cell? ⟨w.heap.size, 1, none⟩ = some (.int .i64 n) ∧ w'.cell? ⟨w.heap.size + 1, 0, none⟩ = some (.int .i8 j) ∧ w'.cell? ⟨w.heap.size + 1, 1, none⟩ = some (.int .i64 m) ∧ w'.cell? ⟨w.heap.size + 1 + 1, 0, none⟩ = some (.int .i8 k) ∧ w'.cell? ⟨w.heap.size + 1 + 1, 1, none⟩ = some (.int .i64 l) ∧ (∀ o, (w'.alloc o).cell? ⟨w.heap.size, 0, none⟩ = some (.int .i8 i)) ∧ (∀ o, (w'.alloc o).cell? ⟨w.heap.size, 1, none⟩ = some (.int .i64 n)) ∧ (∀ o, (w'.alloc o).cell? ⟨w.heap.size + 1, 0, none⟩ = some (.int .i8 j)) ∧ (∀ o, (w'.alloc o).cell? ⟨w.heap.size + 1, 1, none⟩ = some (.int .i64 m)) ∧ (∀ o, (w'.alloc o).cell? ⟨w.heap.size + 1 + 1, 0, none⟩ = some (.int .i8 k)) ∧ (∀ o, (w'.alloc o).cell? ⟨w.heap.size + 1 + 1, 1, none⟩ = some (.int .i64 l)))
theorem ord_call {w : World} {i n j m k l : Int} {f : Nat} {vs : Array Value} {r : Ending} (c : ∀ w, Calls Try.prog f vs w fun e w' => e = r ∧ Below w.heap.size w w') : OrdCall w i n j m k l f vs r :=
  Lib.hid fun W h => (c W).mono fun e w' ⟨he, hb⟩ => ⟨he, Lib.hid (h.keep hb), Lib.hid hb, (h.keep hb).cells.1, (h.keep hb).cells.2.1, (h.keep hb).cells.2.2.1, (h.keep hb).cells.2.2.2.1, (h.keep hb).cells.2.2.2.2.1, (h.keep hb).cells.2.2.2.2.2, fun o => ((h.keep hb).al o).cells.1, fun o => ((h.keep hb).al o).cells.2.1, fun o => ((h.keep hb).al o).cells.2.2.1, fun o => ((h.keep hb).al o).cells.2.2.2.1, fun o => ((h.keep hb).al o).cells.2.2.2.2.1, fun o => ((h.keep hb).al o).cells.2.2.2.2.2⟩
theorem right_is (i n : Int) (b : Bool) (h : rightB i n = b) (w : World) : Calls Try.prog 26 #[.agg #[.int .i8 i, .int .i64 n]] w fun e w' => e = .returned (.bool b) ∧ Below w.heap.size w w' :=
  (right_any i n w).mono fun e w' ⟨he, hw⟩ => ⟨by rw [he, h], hw ▸ (Below.refl _ _).alloc (Nat.le_refl _) _⟩
theorem awake_is (w : World) : Calls Try.prog 21 #[] w fun e w' => e = .returned (.bool true) ∧ Below w.heap.size w w' := awake_any w
theorem less_is (i n j m : Int) (b : Bool) (h : lessB i n j m = b) (w : World) : Calls Try.prog 28 #[.agg #[.int .i8 i, .int .i64 n], .agg #[.int .i8 j, .int .i64 m]] w fun e w' => e = .returned (.bool b) ∧ Below w.heap.size w w' :=
  (less_any i n j m w).mono fun e w' ⟨he, hw⟩ => ⟨by rw [he, h], hw⟩

theorem ord_bad1 (i n j m k l : Int) (w : World) (ra : rightB i n = false) :
    Calls Try.prog 8 #[.agg #[.int .i8 i, .int .i64 n], .agg #[.int .i8 j, .int .i64 m], .agg #[.int .i8 k, .int .i64 l]] w fun e w' => e = .returned (.bool true) ∧ Below w.heap.size w w' := by
  have RA : OrdCall w i n j m k l 26 _ _ := ord_call (right_is i n false ra)
  have L1 : OrdCall w i n j m k l 28 _ _ := ord_call (less_is i n j m false (by simp [lessB, ra]))
  have L2 : OrdCall w i n j m k l 28 _ _ := ord_call (less_is j m i n false (by simp [lessB, ra]))
  have U : OrdCall w i n j m k l 22 _ _ := ord_call (fun w => sum_arg i n i n w (.inl ra))
  have AW : OrdCall w i n j m k l 21 _ _ := ord_call awake_is
  clear ra
  go_enter Try.func8, Try.ntmps8
  go_wp2_with (first
    | (go_at_call 26; (with_reducible refine (RA.out _ (by first | exact OO.out | exact OO.out.al _ | exact OO.out.dr | exact (OO.out.al _).dr | exact Ord.start _ _ _ _ _ _ _)).mono ?_); rintro e w1 ⟨rfl, OO, BB, c0, c1, c2, c3, c4, c5, d0, d1, d2, d3, d4, d5⟩)
    | (go_at_call 22; (with_reducible refine (U.out _ (by first | exact OO.out | exact OO.out.al _ | exact OO.out.dr | exact (OO.out.al _).dr | exact Ord.start _ _ _ _ _ _ _)).mono ?_); rintro e w1 ⟨rfl, OO, BB, c0, c1, c2, c3, c4, c5, d0, d1, d2, d3, d4, d5⟩)
    | (go_at_call 28; (with_reducible refine (L1.out _ (by first | exact OO.out | exact OO.out.al _ | exact OO.out.dr | exact (OO.out.al _).dr | exact Ord.start _ _ _ _ _ _ _)).mono ?_); rintro e w1 ⟨rfl, OO, BB, c0, c1, c2, c3, c4, c5, d0, d1, d2, d3, d4, d5⟩)
    | (go_at_call 28; (with_reducible refine (L2.out _ (by first | exact OO.out | exact OO.out.al _ | exact OO.out.dr | exact (OO.out.al _).dr | exact Ord.start _ _ _ _ _ _ _)).mono ?_); rintro e w1 ⟨rfl, OO, BB, c0, c1, c2, c3, c4, c5, d0, d1, d2, d3, d4, d5⟩)
    | (go_at_call 21; (with_reducible refine (AW.out _ (by first | exact OO.out | exact OO.out.al _ | exact OO.out.dr | exact (OO.out.al _).dr | exact Ord.start _ _ _ _ _ _ _)).mono ?_); rintro e w1 ⟨rfl, OO, BB, c0, c1, c2, c3, c4, c5, d0, d1, d2, d3, d4, d5⟩))
  go_returns
  exact ⟨rfl, OO.out.below⟩

theorem sum_some (i n j m : Int) (hn1 : -9223372036854775808 ≤ n) (hn2 : n ≤ 9223372036854775807) (hm1 : -9223372036854775808 ≤ m) (hm2 : m ≤ 9223372036854775807) (ra : rightB i n = true) (rb : rightB j m = true) :
    ∃ x y e, ((e = 0 ∧ (j = 0 → (i = 0 ∧ x = 0 ∧ y = n + m) ∨ (i ≠ 0 ∧ x = i ∧ y = 0))) ∨ (e = 10 ∧ x = 0 ∧ y = 0)) ∧ ∀ w, Calls Try.prog 22 #[.agg #[.int .i8 i, .int .i64 n], .agg #[.int .i8 j, .int .i64 m]] w fun e' w' => e' = .returned (.tuple #[.agg #[.int .i8 x, .int .i64 y], .int .i64 e]) ∧ Below w.heap.size w w' := by
  rw [rightB_iff] at ra rb
  rcases ra with rfl | ⟨rfl | rfl, rfl⟩
  · rcases rb with rfl | ⟨rfl | rfl, rfl⟩
    · by_cases c : -9223372036854775808 ≤ n + m ∧ n + m ≤ 9223372036854775807
      · exact ⟨_, _, _, .inl ⟨rfl, fun _ => .inl ⟨rfl, rfl, rfl⟩⟩, fun w => sum_zz_ok n m w hn1 hn2 hm1 hm2 c.1 c.2⟩
      · exact ⟨_, _, _, .inr ⟨rfl, rfl, rfl⟩, fun w => sum_zz_over n m w hn1 hn2 hm1 hm2 (by omega)⟩
    · exact ⟨_, _, _, .inl ⟨rfl, fun h => by omega⟩, fun w => sum_zp n w⟩
    · exact ⟨_, _, _, .inl ⟨rfl, fun h => by omega⟩, fun w => sum_zm n w⟩
  · rcases rb with rfl | ⟨rfl | rfl, rfl⟩
    · exact ⟨_, _, _, .inl ⟨rfl, fun _ => .inr ⟨by omega, rfl, rfl⟩⟩, fun w => sum_pz m w⟩
    · exact ⟨_, _, _, .inl ⟨rfl, fun h => by omega⟩, fun w => sum_pp w⟩
    · exact ⟨_, _, _, .inr ⟨rfl, rfl, rfl⟩, fun w => sum_pm w⟩
  · rcases rb with rfl | ⟨rfl | rfl, rfl⟩
    · exact ⟨_, _, _, .inl ⟨rfl, fun _ => .inr ⟨by omega, rfl, rfl⟩⟩, fun w => sum_mz m w⟩
    · exact ⟨_, _, _, .inr ⟨rfl, rfl, rfl⟩, fun w => sum_mp w⟩
    · exact ⟨_, _, _, .inl ⟨rfl, fun h => by omega⟩, fun w => sum_mm w⟩

theorem ord_bad2 (i n j m k l : Int) (w : World) (hn1 : -9223372036854775808 ≤ n) (hn2 : n ≤ 9223372036854775807) (ra : rightB i n = true) (rb : rightB j m = false) :
    Calls Try.prog 8 #[.agg #[.int .i8 i, .int .i64 n], .agg #[.int .i8 j, .int .i64 m], .agg #[.int .i8 k, .int .i64 l]] w fun e w' => e = .returned (.bool true) ∧ Below w.heap.size w w' := by
  obtain ⟨x, y, e, -, U0⟩ := sum_some i n i n hn1 hn2 hn1 hn2 ra ra
  have RA : OrdCall w i n j m k l 26 _ _ := ord_call (right_is i n true ra)
  have RB : OrdCall w i n j m k l 26 _ _ := ord_call (right_is j m false rb)
  have U : OrdCall w i n j m k l 22 _ _ := ord_call U0
  have AW : OrdCall w i n j m k l 21 _ _ := ord_call awake_is
  clear ra rb U0 hn1 hn2
  go_enter Try.func8, Try.ntmps8
  go_wp2_with (first
    | (go_at_call 26; (with_reducible refine (RA.out _ (by first | exact OO.out | exact OO.out.al _ | exact OO.out.dr | exact (OO.out.al _).dr | exact Ord.start _ _ _ _ _ _ _)).mono ?_); rintro e w1 ⟨rfl, OO, BB, c0, c1, c2, c3, c4, c5, d0, d1, d2, d3, d4, d5⟩)
    | (go_at_call 26; (with_reducible refine (RB.out _ (by first | exact OO.out | exact OO.out.al _ | exact OO.out.dr | exact (OO.out.al _).dr | exact Ord.start _ _ _ _ _ _ _)).mono ?_); rintro e w1 ⟨rfl, OO, BB, c0, c1, c2, c3, c4, c5, d0, d1, d2, d3, d4, d5⟩)
    | (go_at_call 22; (with_reducible refine (U.out _ (by first | exact OO.out | exact OO.out.al _ | exact OO.out.dr | exact (OO.out.al _).dr | exact Ord.start _ _ _ _ _ _ _)).mono ?_); rintro e w1 ⟨rfl, OO, BB, c0, c1, c2, c3, c4, c5, d0, d1, d2, d3, d4, d5⟩)
    | (go_at_call 21; (with_reducible refine (AW.out _ (by first | exact OO.out | exact OO.out.al _ | exact OO.out.dr | exact (OO.out.al _).dr | exact Ord.start _ _ _ _ _ _ _)).mono ?_); rintro e w1 ⟨rfl, OO, BB, c0, c1, c2, c3, c4, c5, d0, d1, d2, d3, d4, d5⟩))
  go_returns
  exact ⟨rfl, OO.out.below⟩

theorem ord_bad3 (i n j m k l : Int) (w : World) (hn1 : -9223372036854775808 ≤ n) (hn2 : n ≤ 9223372036854775807) (ra : rightB i n = true) (rb : rightB j m = true) (rc : rightB k l = false) :
    Calls Try.prog 8 #[.agg #[.int .i8 i, .int .i64 n], .agg #[.int .i8 j, .int .i64 m], .agg #[.int .i8 k, .int .i64 l]] w fun e w' => e = .returned (.bool true) ∧ Below w.heap.size w w' := by
  obtain ⟨x, y, e, -, U0⟩ := sum_some i n i n hn1 hn2 hn1 hn2 ra ra
  have RA : OrdCall w i n j m k l 26 _ _ := ord_call (right_is i n true ra)
  have RB : OrdCall w i n j m k l 26 _ _ := ord_call (right_is j m true rb)
  have RC : OrdCall w i n j m k l 26 _ _ := ord_call (right_is k l false rc)
  clear rc
  have U : OrdCall w i n j m k l 22 _ _ := ord_call U0
  have AW : OrdCall w i n j m k l 21 _ _ := ord_call awake_is
  clear ra rb U0 hn1 hn2
  go_enter Try.func8, Try.ntmps8
  go_wp2_with (first
    | (go_at_call 26; (with_reducible refine (RA.out _ (by first | exact OO.out | exact OO.out.al _ | exact OO.out.dr | exact (OO.out.al _).dr | exact Ord.start _ _ _ _ _ _ _)).mono ?_); rintro e w1 ⟨rfl, OO, BB, c0, c1, c2, c3, c4, c5, d0, d1, d2, d3, d4, d5⟩)
    | (go_at_call 26; (with_reducible refine (RB.out _ (by first | exact OO.out | exact OO.out.al _ | exact OO.out.dr | exact (OO.out.al _).dr | exact Ord.start _ _ _ _ _ _ _)).mono ?_); rintro e w1 ⟨rfl, OO, BB, c0, c1, c2, c3, c4, c5, d0, d1, d2, d3, d4, d5⟩)
    | (go_at_call 26; (with_reducible refine (RC.out _ (by first | exact OO.out | exact OO.out.al _ | exact OO.out.dr | exact (OO.out.al _).dr | exact Ord.start _ _ _ _ _ _ _)).mono ?_); rintro e w1 ⟨rfl, OO, BB, c0, c1, c2, c3, c4, c5, d0, d1, d2, d3, d4, d5⟩)
    | (go_at_call 22; (with_reducible refine (U.out _ (by first | exact OO.out | exact OO.out.al _ | exact OO.out.dr | exact (OO.out.al _).dr | exact Ord.start _ _ _ _ _ _ _)).mono ?_); rintro e w1 ⟨rfl, OO, BB, c0, c1, c2, c3, c4, c5, d0, d1, d2, d3, d4, d5⟩)
    | (go_at_call 21; (with_reducible refine (AW.out _ (by first | exact OO.out | exact OO.out.al _ | exact OO.out.dr | exact (OO.out.al _).dr | exact Ord.start _ _ _ _ _ _ _)).mono ?_); rintro e w1 ⟨rfl, OO, BB, c0, c1, c2, c3, c4, c5, d0, d1, d2, d3, d4, d5⟩))
  go_returns
  exact ⟨rfl, OO.out.below⟩

theorem ckeep {w w' : World} {a : Addr} {v : Value} (h : w.cell? a = some v) (b : Below w.heap.size w w') : w'.cell? a = some v := by
  have hlt : a.block < w.heap.size := by
    unfold World.cell? at h
    by_cases c : a.block < w.heap.size
    · exact c
    · rw [Array.getElem?_eq_none (by omega)] at h; cases h
  rw [b.cell hlt]; exact h
end Go.Proofs.Ytplbdfdpcgmcjaa
