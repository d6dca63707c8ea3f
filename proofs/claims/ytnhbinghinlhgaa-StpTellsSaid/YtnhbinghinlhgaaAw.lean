/- Contracts: awake: the chapter's examples. -/
import Derived.Test.YtnhbinghinlhgaaH
import Derived.Test.YtnhbinghinlhgaaI
import Derived.Test.YtnhbinghinlhgaaK
import Derived.Test.YtnhbinghinlhgaaL
namespace Go.Proofs.Ytnhbinghinlhgaa
set_option linter.unusedVariables false
set_option linter.unusedSimpArgs false
open Go.ChangeShapes Go.WideShapes Go.ChangeAt Go.RowKit

def sTwo : List Said := [(0, 1, some 5), (1, 0, some (-2))]
def sThree : List Said := [(0, 1, some 5), (1, 0, some (-2)), (1, 2, some 1)]
def sOdd : List Said := [(0, 1, some 5), (1, 0, some (-6))]
theorem ok_two : ∀ s ∈ sTwo, SaidOk 2 10 s := by
  intro s hs; simp [sTwo] at hs; rcases hs with rfl | rfl <;> simp [SaidOk, Bd.within]
theorem ok_three : ∀ s ∈ sThree, SaidOk 3 10 s := by
  intro s hs; simp [sThree] at hs; rcases hs with rfl | rfl | rfl <;> simp [SaidOk, Bd.within]
theorem ok_odd : ∀ s ∈ sOdd, SaidOk 2 10 s := by
  intro s hs; simp [sOdd] at hs; rcases hs with rfl | rfl <;> simp [SaidOk, Bd.within]
theorem ok_wide {n : Nat} {S : List Said} (h : ∀ s ∈ S, SaidOk n 10 s) : ∀ s ∈ S, SaidOk n 1125899906842624 s := fun s hs => ⟨(h s hs).1, (h s hs).2.1, Bd.within_mono (by decide) (h s hs).2.2⟩
theorem within_said {n : Nat} {S : List Said} (h : ∀ s ∈ S, SaidOk n 10 s) : Within n 10 (puts fresh S) := within_puts S fresh (within_fresh n (by decide)) h
theorem fits_of {n : Nat} {Q : Int} {M : Mat} (h : Within n Q M) (hQ : Q ≤ 1125899906842624) : Fits n M := fun i j hi hj => Bd.within_mono hQ (h i j hi hj)

theorem two_closed : ∃ C, closed 2 (puts fresh sTwo) = some C ∧ ∀ i j, i < 2 → j < 2 → C i j = puts fresh sTwo i j := by
  have h : ((closed 2 (puts fresh sTwo)).map fun C => (C 0 0, C 0 1, C 1 0, C 1 1)) = some (some 0, some 5, some (-2), some 0) := by decide
  cases hc : closed 2 (puts fresh sTwo) with
  | none => rw [hc] at h; cases h
  | some C =>
    rw [hc] at h
    simp only [Option.map_some, Option.some.injEq, Prod.mk.injEq] at h
    refine ⟨C, rfl, fun i j hi hj => ?_⟩
    match i, j, hi, hj with
    | 0, 0, _, _ => exact h.1.trans (by decide)
    | 0, 1, _, _ => exact h.2.1.trans (by decide)
    | 1, 0, _, _ => exact h.2.2.1.trans (by decide)
    | 1, 1, _, _ => exact h.2.2.2.trans (by decide)
theorem three_closed : ∃ C, closed 3 (puts fresh sThree) = some C ∧ C 0 2 = some 6 := by
  have h : ((closed 3 (puts fresh sThree)).map fun C => C 0 2) = some (some 6) := by decide
  cases hc : closed 3 (puts fresh sThree) with
  | none => rw [hc] at h; cases h
  | some C => rw [hc] at h; simp only [Option.map_some, Option.some.injEq] at h; exact ⟨C, rfl, h⟩
theorem odd_closed : closed 2 (puts fresh sOdd) = none := by
  have h : ((closed 2 (puts fresh sOdd)).map fun C => C 0 0) = none := by decide
  simpa using h

/-- Close of a network of the own. -/
theorem close_own {w : World} {B g o n k : Nat} {b p c : Nat → Nat} {S : List Said} (h0 : 0 < n) (hn : n ≤ 3) (hk : n ≤ k) (hk' : k ≤ 9223372036854775807) (hS : ∀ s ∈ S, SaidOk n 10 s) (h : NetOwn w B g o n b p c (puts fresh S)) :
    Calls Try.prog 17 #[.slice (some ⟨g, o, none⟩) n k] w fun e w' => CloseIs w w' n e (closed n (puts fresh S)) :=
  close_net 10 (by decide) g o n k b p c _ (by have : (2 : Int) ^ n ≤ 2 ^ 3 := by { match n, hn with | 0, _ => decide | 1, _ => decide | 2, _ => decide | 3, _ => decide }; omega) h0 (by omega) hk hk' (fits_of (within_said hS) (by decide)) (within_said hS) w h.net

theorem said_block (w : World) (S : List Said) (cs : Array Value) (h : cs.toList = saidCells S) (t : TypeId) : SaidAt (w.alloc (.cells cs t)) w.heap.size 0 S := by
  have hb : (w.alloc (.cells cs t)).heap[w.heap.size]? = some (.cells cs t) := by
    show (w.heap.push _)[w.heap.size]? = _
    simp
  have hc : ∀ k : Nat, (w.alloc (.cells cs t)).cell? ⟨w.heap.size, 0 + k, none⟩ = (saidCells S)[k]? := by
    intro k
    rw [← h, Nat.zero_add]
    unfold World.cell?
    simp only [hb]
    simp
  refine ⟨fun t ht => ?_, fun t ht => ?_, fun t ht => ?_, fun t ht => ?_⟩
  · rw [hc]; exact (saidCells_at S t ht).1
  · have := hc (t * 4 + 1); rw [← Nat.add_assoc] at this; rw [this]; exact (saidCells_at S t ht).2.1
  · have := hc (t * 4 + 2); rw [← Nat.add_assoc] at this; rw [this]; exact (saidCells_at S t ht).2.2.1
  · have := hc (t * 4 + 3); rw [← Nat.add_assoc] at this; rw [this]; exact (saidCells_at S t ht).2.2.2
abbrev cTwo (a : Int) : Array Value := #[.int .i64 0, .int .i64 1, .int .i8 0, .int .i64 5, .int .i64 1, .int .i64 0, .int .i8 0, .int .i64 a]
theorem built_two (w : World) : Calls Try.prog 22 #[.int .i64 2, .slice (some ⟨w.heap.size, 0, none⟩) 2 2] (w.alloc (.cells (cTwo (-2)) 28)) fun e w' => MadeFine (w.alloc (.cells (cTwo (-2)) 28)) w' 2 (puts fresh sTwo) e :=
  built_net 2 (by decide) (by decide) w.heap.size 0 2 sTwo (by decide) (by decide) (ok_wide ok_two) _ (said_block w sTwo _ rfl 28)
theorem built_odd (w : World) : Calls Try.prog 22 #[.int .i64 2, .slice (some ⟨w.heap.size, 0, none⟩) 2 2] (w.alloc (.cells (cTwo (-6)) 28)) fun e w' => MadeFine (w.alloc (.cells (cTwo (-6)) 28)) w' 2 (puts fresh sOdd) e :=
  built_net 2 (by decide) (by decide) w.heap.size 0 2 sOdd (by decide) (by decide) (ok_wide ok_odd) _ (said_block w sOdd _ rfl 28)
abbrev cThree : Array Value := #[.int .i64 0, .int .i64 1, .int .i8 0, .int .i64 5, .int .i64 1, .int .i64 0, .int .i8 0, .int .i64 (-2), .int .i64 1, .int .i64 2, .int .i8 0, .int .i64 1]
theorem built_three (w : World) : Calls Try.prog 22 #[.int .i64 3, .slice (some ⟨w.heap.size, 0, none⟩) 3 3] (w.alloc (.cells cThree 28)) fun e w' => MadeFine (w.alloc (.cells cThree 28)) w' 3 (puts fresh sThree) e :=
  built_net 3 (by decide) (by decide) w.heap.size 0 3 sThree (by decide) (by decide) (ok_wide ok_three) _ (said_block w sThree _ rfl 28)
theorem new_two (w : World) : Calls Try.prog 9 #[.int .i64 2] w fun e w' => MadeOk w w' 2 fresh e := new_net 2 (by decide) (by decide) w
theorem square_two (g o k : Nat) (b p c : Nat → Nat) (M : Mat) (hk : 2 ≤ k) (hk' : k ≤ 9223372036854775807) (w : World) (hw : NetAt w g o 2 b p c M) :
    Calls Try.prog 21 #[.slice (some ⟨g, o, none⟩) 2 k, .int .i64 2] w fun e w' => e = .returned (.bool true) ∧ w = w' := square_net g o 2 k b p c M (by decide) hk hk' w hw
theorem square_three (g o k : Nat) (b p c : Nat → Nat) (M : Mat) (hk : 3 ≤ k) (hk' : k ≤ 9223372036854775807) (w : World) (hw : NetAt w g o 3 b p c M) :
    Calls Try.prog 21 #[.slice (some ⟨g, o, none⟩) 3 k, .int .i64 3] w fun e w' => e = .returned (.bool true) ∧ w = w' := square_net g o 3 k b p c M (by decide) hk hk' w hw
theorem close_two {w : World} {B g o k : Nat} {b p c : Nat → Nat} (hk : 2 ≤ k) (hk' : k ≤ 9223372036854775807) (h : NetOwn w B g o 2 b p c (puts fresh sTwo)) :
    Calls Try.prog 17 #[.slice (some ⟨g, o, none⟩) 2 k] w fun e w' => ∃ C g o k b p c, e = .returned (.tuple #[.slice (some ⟨g, o, none⟩) 2 k, .bool true, .int .i64 0]) ∧ 2 ≤ k ∧ k ≤ 9223372036854775807 ∧ Hid (NetOwn w' w.heap.size g o 2 b p c C) ∧ Hid (Below w.heap.size w w') ∧ Hid (∀ i j, i < 2 → j < 2 → C i j = puts fresh sTwo i j) := by
  obtain ⟨C, hC, e⟩ := two_closed
  have h := close_own (by decide) (by decide) hk hk' ok_two h
  rw [hC] at h
  exact h.mono fun e' w' ⟨g, o, k, b, p, c, h1, h2, h3, h4, h5⟩ => ⟨C, g, o, k, b, p, c, h1, h2, h3, h4, h5, Lib.hid e⟩
theorem close_three {w : World} {B g o k : Nat} {b p c : Nat → Nat} (hk : 3 ≤ k) (hk' : k ≤ 9223372036854775807) (h : NetOwn w B g o 3 b p c (puts fresh sThree)) :
    Calls Try.prog 17 #[.slice (some ⟨g, o, none⟩) 3 k] w fun e w' => ∃ C g o k b p c, e = .returned (.tuple #[.slice (some ⟨g, o, none⟩) 3 k, .bool true, .int .i64 0]) ∧ 3 ≤ k ∧ k ≤ 9223372036854775807 ∧ Hid (NetOwn w' w.heap.size g o 3 b p c C) ∧ Hid (Below w.heap.size w w') ∧ Hid (C 0 2 = some 6) := by
  obtain ⟨C, hC, e⟩ := three_closed
  have h := close_own (by decide) (by decide) hk hk' ok_three h
  rw [hC] at h
  exact h.mono fun e' w' ⟨g, o, k, b, p, c, h1, h2, h3, h4, h5⟩ => ⟨C, g, o, k, b, p, c, h1, h2, h3, h4, h5, Lib.hid e⟩
theorem close_odd {w : World} {B g o k : Nat} {b p c : Nat → Nat} (hk : 2 ≤ k) (hk' : k ≤ 9223372036854775807) (h : NetOwn w B g o 2 b p c (puts fresh sOdd)) :
    Calls Try.prog 17 #[.slice (some ⟨g, o, none⟩) 2 k] w fun e w' => e = .returned (.tuple #[.slice none 0 0, .bool false, .int .i64 0]) ∧ Hid (Below w.heap.size w w') := by
  have h := close_own (by decide) (by decide) hk hk' ok_odd h
  rw [odd_closed] at h
  exact h

theorem tick_at (w : World) (x y : Int) (hx : I64 x) (hy : I64 y) : IntsAt (w.alloc (.cells #[.int .i64 x, .int .i64 y] 3)) w.heap.size 0 2 (fun j => if j = 0 then x else y) := by
  have h : (w.alloc (.cells #[.int .i64 x, .int .i64 y] 3)).heap[w.heap.size]? = some (.cells #[.int .i64 x, .int .i64 y] 3) := by
    show (w.heap.push _)[w.heap.size]? = _
    simp
  refine ⟨fun j hj => ?_, fun j hj => ?_⟩
  · unfold World.cell?
    simp only [h]
    match j, hj with
    | 0, _ => rfl
    | 1, _ => rfl
  · match j, hj with
    | 0, _ => exact hx
    | 1, _ => exact hy
theorem sat_37 : true = true ↔ Sat 2 (fun j => if j = 0 then (3 : Int) else 7) (puts fresh sTwo) := by
  refine ⟨fun _ i j hi hj => ?_, fun _ => rfl⟩
  match i, j, hi, hj with
  | 0, 0, _, _ => show Bd.le (some (3 - 3)) (puts fresh sTwo 0 0); rw [show puts fresh sTwo 0 0 = some 0 by decide]; simp [Bd.le]
  | 0, 1, _, _ => show Bd.le (some (7 - 3)) (puts fresh sTwo 0 1); rw [show puts fresh sTwo 0 1 = some 5 by decide]; simp [Bd.le]
  | 1, 0, _, _ => show Bd.le (some (3 - 7)) (puts fresh sTwo 1 0); rw [show puts fresh sTwo 1 0 = some (-2) by decide]; simp [Bd.le]
  | 1, 1, _, _ => show Bd.le (some (7 - 7)) (puts fresh sTwo 1 1); rw [show puts fresh sTwo 1 1 = some 0 by decide]; simp [Bd.le]
theorem sat_39 : false = true ↔ Sat 2 (fun j => if j = 0 then (3 : Int) else 9) (puts fresh sTwo) := by
  refine ⟨fun h => (by cases h), fun h => ?_⟩
  have a := h 0 1 (by omega) (by omega)
  rw [show puts fresh sTwo 0 1 = some 5 by decide] at a
  simp [Bd.le] at a

theorem ch2 {w w1 w2 w3 : World} {o : Obj} (b1 : Below w.heap.size w w1) (b2 : Below w1.heap.size w1 w2) (b3 : Below (w2.alloc o).heap.size (w2.alloc o) w3) : Below w.heap.size w w3 :=
  (b1.trans (b2.mono b1.size)).trans ((((Below.refl _ w2).alloc (Nat.le_refl _) o).trans (b3.mono (by simp))).mono (Nat.le_trans b1.size b2.size))
theorem ch3 {w w0 w1 w2 w3 : World} {o : Obj} (b0 : Below w.heap.size w w0) (b1 : Below w0.heap.size w0 w1) (b2 : Below w1.heap.size w1 w2) (b3 : Below (w2.alloc o).heap.size (w2.alloc o) w3) : Below w.heap.size w w3 :=
  b0.trans ((ch2 b1 b2 b3).mono b0.size)

set_option maxRecDepth 100000 in
set_option maxHeartbeats 8000000 in
theorem awake_any (w : World) : Calls Try.prog 8 #[] w fun e w' => e = .returned (.bool true) ∧ Below w.heap.size w w' := by
  go_enter Try.func8, Try.ntmps8
  go_upto_region 8 with (first
    | (go_at_call 23; (fail_if_success (have := b1)); (with_reducible refine (number_any _ _).mono ?_); rintro e w1 ⟨rfl, b1⟩)
    | (go_at_call 23; (fail_if_success (have := b2)); (with_reducible refine (number_any _ _).mono ?_); rintro e w2 ⟨rfl, b2⟩)
    | (go_at_call 22; (fail_if_success (have := hk3)); (with_reducible refine (built_two _).mono ?_); rintro e w3 ⟨g3, o3, k3, p3, q3, c3, rfl, hk3, hl3, HN3, HB3⟩; have D3 := Lib.hid (ch2 b1 b2 HB3.out); clear b1 b2 HB3; have b1 := True.intro; have b2 := True.intro)
    | (go_at_call 17; (fail_if_success (have := hk4)); (with_reducible refine (close_two hk3 hl3 HN3.out).mono ?_); rintro e w4 ⟨C4, g4, o4, k4, p4, q4, c4, rfl, hk4, hl4, HN4, HB4, HE4⟩; have N3 := Lib.hid (HN3.out.keep HB4.out); have D4 := Lib.hid (D3.out.trans (HB4.out.mono D3.out.size)); clear D3 HB4 HN3)
    | (go_at_call 23; (fail_if_success (have := b5)); (with_reducible refine (number_any _ _).mono ?_); rintro e w5 ⟨rfl, b5⟩)
    | (go_at_call 23; (fail_if_success (have := b6)); (with_reducible refine (number_any _ _).mono ?_); rintro e w6 ⟨rfl, b6⟩)
    | (go_at_call 23; (fail_if_success (have := b7)); (with_reducible refine (number_any _ _).mono ?_); rintro e w7 ⟨rfl, b7⟩)
    | (go_at_call 22; (fail_if_success (have := hk8)); (with_reducible refine (built_three _).mono ?_); rintro e w8 ⟨g8, o8, k8, p8, q8, c8, rfl, hk8, hl8, HN8, HB8⟩; have L8 := ch3 b5 b6 b7 HB8.out; have M3 := Lib.hid (N3.out.keep L8); have M4 := Lib.hid (HN4.out.keep L8); have D8 := Lib.hid (D4.out.trans (L8.mono D4.out.size)); clear b5 b6 b7 HB8 L8 N3 HN4 D4; have b5 := True.intro; have b6 := True.intro; have b7 := True.intro)
    | (go_at_call 17; (fail_if_success (have := hk9)); (with_reducible refine (close_three hk8 hl8 HN8.out).mono ?_); rintro e w9 ⟨C9, g9, o9, k9, p9, q9, c9, rfl, hk9, hl9, HN9, HB9, HE9⟩; have N3 := Lib.hid (M3.out.keep HB9.out); have N4 := Lib.hid (M4.out.keep HB9.out); have D9 := Lib.hid (D8.out.trans (HB9.out.mono D8.out.size)); clear M3 M4 D8 HB9 HN8)
    | (go_at_call 23; (fail_if_success (have := b10)); (with_reducible refine (number_any _ _).mono ?_); rintro e w10 ⟨rfl, b10⟩)
    | (go_at_call 23; (fail_if_success (have := b11)); (with_reducible refine (number_any _ _).mono ?_); rintro e w11 ⟨rfl, b11⟩)
    | (go_at_call 22; (fail_if_success (have := hk12)); (with_reducible refine (built_odd _).mono ?_); rintro e w12 ⟨g12, o12, k12, p12, q12, c12, rfl, hk12, hl12, HN12, HB12⟩; have L12 := ch2 b10 b11 HB12.out; have M3 := Lib.hid (N3.out.keep L12); have M4 := Lib.hid (N4.out.keep L12); have M9 := Lib.hid (HN9.out.keep L12); have D12 := Lib.hid (D9.out.trans (L12.mono D9.out.size)); clear b10 b11 HB12 L12 N3 N4 HN9 D9; have b10 := True.intro; have b11 := True.intro)
    | (go_at_call 17; (with_reducible refine (close_odd hk12 hl12 HN12.out).mono ?_); rintro e w13 ⟨rfl, HB13⟩; have N3 := Lib.hid (M3.out.keep HB13.out); have N4 := Lib.hid (M4.out.keep HB13.out); have N9 := Lib.hid (M9.out.keep HB13.out); have D13 := Lib.hid (D12.out.trans (HB13.out.mono D12.out.size)); clear M3 M4 M9 D12 HB13 HN12)
    | (go_at_call 9; (with_reducible refine (new_two _).mono ?_); rintro e w14 ⟨g14, o14, k14, p14, q14, c14, rfl, hk14, hl14, HN14, HB14⟩; have M3 := Lib.hid (N3.out.keep HB14.out); have M4 := Lib.hid (N4.out.keep HB14.out); have M9 := Lib.hid (N9.out.keep HB14.out); have D14 := Lib.hid (D13.out.trans (HB14.out.mono D13.out.size)); clear N3 N4 N9 D13 HB14))
  go_upto_region 10 with (first
    | (go_at_call 21; (with_reducible refine (square_three _ _ _ _ _ _ _ hk9 hl9 _ M9.out.net).mono ?_); rintro e w' ⟨rfl, rfl⟩)
    | (go_at_call 21; (with_reducible refine (square_two _ _ _ _ _ _ _ hk14 hl14 _ HN14.out.net).mono ?_); rintro e w' ⟨rfl, rfl⟩))
  have r9 := M9.out.net.row 0 (by decide)
  have i9 := (M9.out.net.cells 0 (by decide)).inf 2 (by decide)
  have n9 := (M9.out.net.cells 0 (by decide)).num 2 (by decide)
  have r14 := HN14.out.net.row 0 (by decide)
  have i14 := (HN14.out.net.cells 0 (by decide)).inf 0 (by decide)
  have n14 := (HN14.out.net.cells 0 (by decide)).num 0 (by decide)
  have i15 := (HN14.out.net.cells 0 (by decide)).inf 1 (by decide)
  have n15 := (HN14.out.net.cells 0 (by decide)).num 1 (by decide)
  rw [HE9.out] at i9 n9
  simp only [infOf, numOf, Nat.add_zero, Nat.zero_mul, Nat.one_mul, show fresh 0 0 = some 0 from rfl, show fresh 0 1 = none from rfl, show 2 * 2 = 4 from rfl] at r9 i9 n9 r14 i14 n14 i15 n15
  generalize p9 0 = pa at *
  generalize q9 0 = qa at *
  generalize c9 0 = ca at *
  generalize p14 0 = pb at *
  generalize q14 0 = qb at *
  generalize c14 0 = cb at *
  have hk4' : (2 : Nat) ≤ k4 := hk4
  clear HE9
  go_region_held3 (fun w' => w'.cell? ⟨g9, o9, none⟩ = some (.slice (some ⟨pa, qa, none⟩) 3 ca) ∧ w'.cell? ⟨pa, qa + 4, none⟩ = some (.int .i8 0) ∧ w'.cell? ⟨pa, qa + 4 + 1, none⟩ = some (.int .i64 6) ∧ w'.cell? ⟨g14, o14, none⟩ = some (.slice (some ⟨pb, qb, none⟩) 2 cb) ∧ w'.cell? ⟨pb, qb, none⟩ = some (.int .i8 0) ∧ w'.cell? ⟨pb, qb + 1, none⟩ = some (.int .i64 0) ∧ w'.cell? ⟨pb, qb + 2, none⟩ = some (.int .i8 1) ∧ w'.cell? ⟨pb, qb + 2 + 1, none⟩ = some (.int .i64 0)) (first | go_keep | exact ⟨cell_keep r9 E5.out, cell_keep i9 E5.out, cell_keep n9 E5.out, cell_keep r14 E5.out, cell_keep i14 E5.out, cell_keep n14 E5.out, cell_keep i15 E5.out, cell_keep n15 E5.out⟩ | exact ⟨cell_keep r9 E4.out, cell_keep i9 E4.out, cell_keep n9 E4.out, cell_keep r14 E4.out, cell_keep i14 E4.out, cell_keep n14 E4.out, cell_keep i15 E4.out, cell_keep n15 E4.out⟩ | exact ⟨cell_keep r9 E3.out, cell_keep i9 E3.out, cell_keep n9 E3.out, cell_keep r14 E3.out, cell_keep i14 E3.out, cell_keep n14 E3.out, cell_keep i15 E3.out, cell_keep n15 E3.out⟩ | exact ⟨cell_keep r9 E2.out, cell_keep i9 E2.out, cell_keep n9 E2.out, cell_keep r14 E2.out, cell_keep i14 E2.out, cell_keep n14 E2.out, cell_keep i15 E2.out, cell_keep n15 E2.out⟩ | exact ⟨cell_keep r9 E1.out, cell_keep i9 E1.out, cell_keep n9 E1.out, cell_keep r14 E1.out, cell_keep i14 E1.out, cell_keep n14 E1.out, cell_keep i15 E1.out, cell_keep n15 E1.out⟩)
    ((first
      | (go_at_call 19; (with_reducible refine (same_net g4 o4 2 k4 p4 q4 c4 C4 g3 o3 k3 p3 q3 c3 (puts fresh sTwo) (by decide) hk4 hk3 _ M4.out.drew.net M3.out.drew.net HE4.out).mono ?_); rintro e v1 ⟨rfl, f1⟩; have E1 : Hid (Below w14.heap.size w14 v1) := Lib.hid (below_of (w := w14) f1 rfl rfl rfl rfl))
      | (go_at_call 23; (fail_if_success (have := f2)); (with_reducible refine (number_any _ _).mono ?_); rintro e v2 ⟨rfl, f2⟩; have E2 := Lib.hid (E1.out.trans (f2.mono E1.out.size)))
      | (go_at_call 23; (with_reducible refine (number_any _ _).mono ?_); rintro e v3 ⟨rfl, f3⟩; have E3 := Lib.hid (E2.out.trans (f3.mono E2.out.size)))
      | (go_at_call 12; (fail_if_success (have := f4)); (with_reducible refine (holds_any g3 o3 2 k3 p3 q3 c3 (puts fresh sTwo) (by decide) hk3 hl3 (fits_of (within_said ok_two) (by decide)) _ 0 2 (fun j => if j = 0 then (3 : Int) else 7) (by decide) (by decide) _ (M3.out.keep (E3.out.alloc E3.out.size _)).net (tick_at v3 3 7 (by decide) (by decide)) true sat_37).mono ?_); rintro e v4 ⟨rfl, f4⟩; have E4 := Lib.hid ((E3.out.alloc E3.out.size (.cells #[.int .i64 3, .int .i64 7] 3)).trans (f4.mono (E3.out.alloc E3.out.size (.cells #[.int .i64 3, .int .i64 7] 3)).size)))
      | (go_at_call 12; (with_reducible refine (holds_any g3 o3 2 k3 p3 q3 c3 (puts fresh sTwo) (by decide) hk3 hl3 (fits_of (within_said ok_two) (by decide)) _ 0 2 (fun j => if j = 0 then (3 : Int) else 9) (by decide) (by decide) _ (M3.out.keep (E4.out.alloc E4.out.size _)).net (tick_at v4 3 9 (by decide) (by decide)) false sat_39).mono ?_); rintro e v5 ⟨rfl, f5⟩; have E5 := Lib.hid ((E4.out.alloc E4.out.size (.cells #[.int .i64 3, .int .i64 9] 3)).trans (f5.mono (E4.out.alloc E4.out.size (.cells #[.int .i64 3, .int .i64 9] 3)).size)))
      | fail))
  go_wp2
  go_returns
  exact ⟨rfl, D14.out.trans (E5.out.mono D14.out.size)⟩
end Go.Proofs.Ytnhbinghinlhgaa
