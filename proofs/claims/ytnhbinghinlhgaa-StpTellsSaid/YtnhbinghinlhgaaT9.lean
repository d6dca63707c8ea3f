/- Contracts: what New, Set, Close tell, as the law asks them. -/
import Derived.Test.YtnhbinghinlhgaaT8
import Derived.Test.YtnhbinghinlhgaaW5
namespace Go.Proofs.Ytnhbinghinlhgaa
set_option linter.unusedVariables false
set_option linter.unusedSimpArgs false
open Go.ChangeShapes Go.WideShapes Go.ChangeAt Go.RowKit
theorem close_wrong (ao : Option Addr) (N k : Nat) (ra : Nat → Option Addr) (L c : Nat → Nat) (X Y : Nat → Nat → Int) (w : World) (hw : RawNet w ao N k ra L c X Y) (h : ¬ RightIs N L X Y) :
    Calls Try.prog 17 #[.slice ao N k] w fun e w' => e = .returned (.tuple #[.slice none 0 0, .bool false, .int .i64 2]) ∧ Below w.heap.size w w' := by
  have R := Lib.hid (right_raw ao N k ra L c X Y w hw false ⟨fun e => (by cases e), fun e => absurd e h⟩)
  clear h hw
  go_enter Try.func17, Try.ntmps17
  go_wp2_with (go_at_call 11; (with_reducible refine (R.out).mono ?_); rintro e w1 ⟨rfl, b1⟩)
  go_returns
  exact ⟨rfl, b1⟩
theorem copied_zero (w : World) : Calls Try.prog 28 #[.slice none 0 0] w fun e w' => ∃ ao k, e = .returned (.slice ao 0 k) ∧ Below w.heap.size w w' := by
  obtain ⟨i0, hi, hz0, hz1, hz2⟩ := info_parts info30
  have HI := Lib.hid hi
  have HZ0 := Lib.hid hz0
  have HZ1 := Lib.hid hz1
  have HZ2 := Lib.hid hz2
  clear hi hz0 hz1
  go_enter Try.func28, Try.ntmps28
  go_wp2_with (at_make; refine wpList_make_full _ rfl _ _ 22 rfl w.heap.size 30 i0 (.slice none 0 0) 1 Try.underlying22 HI.out HZ0.out HZ1.out .i64 .i64 _ _ 0 rfl rfl rfl rfl (by rw [HZ2.out]; omega) (by unfold maxLen; omega) (Nat.le_refl _) ?_; intro w1 hown hgro; have HB := Lib.hid ((Below.refl _ w).grown hgro (Nat.le_refl _) (fun k hk => by cases hk)); clear hown hgro)
  go_loopw [10] (fun ii wr => ii = .int .i64 0 ∧ wr = w1) (fun ii _ => 0)
  case atStart => exact ⟨rfl, rfl⟩
  case round =>
    obtain ⟨rfl, rfl⟩ := hrel
    go_wp2
    go_returns
    exact ⟨_, _, rfl, HB.out⟩
theorem raw_nil (w : World) : RawNet w none 0 0 (fun _ => none) (fun _ => 0) (fun _ => 0) (fun _ _ => 0) (fun _ _ => 0) :=
  ⟨Nat.le_refl _, by omega, fun _ => ⟨rfl, rfl⟩, fun h => absurd h (Nat.lt_irrefl _), fun i h => absurd h (Nat.not_lt_zero _), fun i h => absurd h (Nat.not_lt_zero _)⟩
theorem close_zero (w : World) : Calls Try.prog 17 #[.slice none 0 0] w fun e w' => ∃ ao k, e = .returned (.tuple #[.slice ao 0 k, .bool true, .int .i64 0]) ∧ Below w.heap.size w w' := by
  have R := Lib.hid (right_raw none 0 0 _ _ _ _ _ w (raw_nil w) true ⟨fun _ => ⟨by decide, fun i h => absurd h (Nat.not_lt_zero _)⟩, fun _ => rfl⟩)
  go_enter Try.func17, Try.ntmps17
  go_wp2_with (first
    | (go_at_call 11; (with_reducible refine (R.out).mono ?_); rintro e w1 ⟨rfl, b1⟩; have HB1 := Lib.hid b1; clear b1)
    | (go_at_call 28; (with_reducible refine (copied_zero _).mono ?_); rintro e w2 ⟨ao, k, rfl, b2⟩; have HB2 := Lib.hid (HB1.out.trans (b2.mono HB1.out.size)); clear b2))
  go_loopw [16] (fun ii wr => ii = .int .i64 0 ∧ wr = w2) (fun ii _ => 0)
  case atStart => exact ⟨rfl, rfl⟩
  case round =>
    obtain ⟨rfl, rfl⟩ := hrel
    go_wp2
    go_loopw [47] (fun ii wr' => ii = .int .i64 0 ∧ wr' = wr) (fun ii _ => 0)
    case atStart => exact ⟨rfl, rfl⟩
    case round =>
      obtain ⟨rfl, rfl⟩ := hrel
      go_wp2
      go_returns
      exact ⟨_, _, rfl, HB2.out⟩
theorem rclose_zero (w : World) : Calls Try.prog 18 #[.slice none 0 0] w fun e w' => e = .returned (.tuple #[.slice none 0 0, .bool true]) ∧ Below w.heap.size w w' := by
  go_enter Try.func18, Try.ntmps18
  go_wp2
  go_loopw [4, 5] (fun v ii wr => v = .slice none 0 0 ∧ ii = .int .i64 0 ∧ wr = w) (fun _ ii _ => 0)
  case atStart => exact ⟨rfl, rfl, rfl⟩
  case round =>
    obtain ⟨rfl, rfl, rfl⟩ := hrel
    go_wp2
    go_returns
    exact ⟨rfl, Below.refl _ _⟩
theorem same_zero (ao bo : Option Addr) (k l : Nat) (w : World) : Calls Try.prog 19 #[.slice ao 0 k, .slice bo 0 l] w fun e w' => e = .returned (.bool true) ∧ Below w.heap.size w w' := by
  go_enter Try.func19, Try.ntmps19
  go_wp2
  go_loopw [5] (fun ii wr => ii = .int .i64 0 ∧ wr = w) (fun ii _ => 0)
  case atStart => exact ⟨rfl, rfl⟩
  case round =>
    obtain ⟨rfl, rfl⟩ := hrel
    go_wp2
    go_returns
    exact ⟨rfl, Below.refl _ _⟩

/-- What the two closures tell of a network: the same. -/
def BothClose (v : Value) (w : World) : Prop := ∃ ok : Bool,
  Calls Try.prog 17 #[v] w fun e w' => ∃ ao L k, e = .returned (.tuple #[.slice ao L k, .bool ok, .int .i64 0]) ∧ Hid (Below w.heap.size w w') ∧
    Hid (Calls Try.prog 18 #[v] w' fun e w'' => ∃ ao' L' k', e = .returned (.tuple #[.slice ao' L' k', .bool ok]) ∧ Hid (Below w'.heap.size w' w'') ∧
      Hid (∀ w3, Below w''.heap.size w'' w3 → Calls Try.prog 19 #[.slice ao L k, .slice ao' L' k'] w3 fun e w4 => e = .returned (.bool true) ∧ Below w3.heap.size w3 w4))
theorem both_zero (w : World) : BothClose (.slice none 0 0) w :=
  ⟨true, (close_zero w).mono fun e w' ⟨ao, k, he, hb⟩ => ⟨ao, 0, k, he, hb, (rclose_zero w').mono fun e w'' ⟨he, hb⟩ => ⟨none, 0, 0, he, hb, fun w3 _ => same_zero _ _ _ _ w3⟩⟩⟩
theorem both_net (g o n k : Nat) (b p c : Nat → Nat) (M : Mat) (h0 : 0 < n) (hn : n ≤ 6) (hk : n ≤ k) (hk' : k ≤ 9223372036854775807) (hM : Fits n M) (w : World) (hw : NetAt w g o n b p c M) : BothClose (.slice (some ⟨g, o, none⟩) n k) w := by
  have hQ : (2 : Int) ^ n * 1125899906842624 ≤ 4611686018427387903 := Int.le_trans (two_pow (by decide) hn) (by decide)
  have C := close_net 1125899906842624 (by decide) g o n k b p c M hQ h0 (by omega) hk hk' hM hM w hw
  have R := fun w' (hb : Below w.heap.size w w') => rclose_net g o n k b p c M h0 (by omega) hk hk' hM w' (hw.keep hb)
  cases hc : closed n M with
  | none =>
    rw [hc] at C
    refine ⟨false, C.mono fun e w' he => ?_⟩
    obtain ⟨rfl, hb⟩ : e = .returned (.tuple #[.slice none 0 0, .bool false, .int .i64 0]) ∧ Hid (Below w.heap.size w w') := he
    refine ⟨none, 0, 0, rfl, hb, (R w' hb).mono fun e w'' he => ?_⟩
    rcases he with ⟨i, _, _, rfl, hb2⟩ | ⟨hn, _⟩
    · exact ⟨none, 0, 0, rfl, hb2, fun w3 _ => same_zero _ _ _ _ w3⟩
    · obtain ⟨D, hD, _⟩ := way_closed hn
      rw [hc] at hD; cases hD
  | some D =>
    rw [hc] at C
    refine ⟨true, C.mono fun e w' he => ?_⟩
    obtain ⟨g', o', k', b', p', c', rfl, hk1, hk2, HN, hb⟩ : ∃ g o k b p c, e = .returned (.tuple #[.slice (some ⟨g, o, none⟩) n k, .bool true, .int .i64 0]) ∧ n ≤ k ∧ k ≤ 9223372036854775807 ∧ Hid (NetOwn w' w.heap.size g o n b p c D) ∧ Hid (Below w.heap.size w w') := he
    refine ⟨some ⟨g', o', none⟩, n, k', rfl, hb, (R w' hb).mono fun e w'' he => ?_⟩
    rcases he with ⟨i, hi, ho, _, _⟩ | ⟨hng, g2, k2, b2, c2, rfl, hk2', HN2, hb2⟩
    · have := way_odd hi ho
      rw [hc] at this; cases this
    · refine ⟨some ⟨g2, 0, none⟩, n, k2, rfl, hb2, fun w3 hb3 => ?_⟩
      obtain ⟨D', hD', hw'⟩ := way_closed hng
      rw [hc] at hD'; cases hD'
      exact same_net g' o' n k' b' p' c' D g2 0 k2 b2 (fun _ => 0) c2 (ways n M) (by omega) hk1 hk2' w3 (HN.net.keep (hb2.trans (hb3.mono hb2.size)) |>.keep (Below.refl _ _)) (HN2.out.keep hb3) (fun i j hi hj => hw' i j hi hj)
/-- New, where it tells no error. -/
theorem new_ok (N : Nat) (h : N ≤ 24) (w : World) : Calls Try.prog 9 #[.int .i64 N] w fun e w' => ∃ ao k, e = .returned (.tuple #[.slice ao N k, .int .i64 0]) ∧ Hid (Below w.heap.size w w') ∧
    Hid (∀ w'', Below w'.heap.size w' w'' → Calls Try.prog 10 #[.slice ao N k] w'' fun e w3 => e = .returned (.bool true) ∧ Below w''.heap.size w'' w3) := by
  by_cases h0 : 0 < N
  · refine (new_net N h0 h w).mono fun e w' he => ?_
    obtain ⟨g, o, k, b, p, c, rfl, hk, hk', HN, HB⟩ := he
    exact ⟨_, k, rfl, HB, fun w'' hb => rright_raw _ N k _ _ _ _ _ w'' ((net_raw HN.net hk hk').keep hb) true ⟨fun _ => net_right h (within_fresh N (by decide)), fun _ => rfl⟩⟩
  · obtain rfl : N = 0 := by omega
    refine (new_zero w).mono fun e w' ⟨ao, k, he, hr, hb⟩ => ⟨ao, k, he, hb, fun w'' hb2 => rright_raw _ 0 k _ _ _ _ _ w'' (hr.keep hb2) true ⟨fun _ => ⟨by decide, fun i h => absurd h (Nat.not_lt_zero _)⟩, fun _ => rfl⟩⟩
/-- Set, where it tells no error. -/
theorem set_ok (ao : Option Addr) (N k : Nat) (ra : Nat → Option Addr) (L c : Nat → Nat) (X Y : Nat → Nat → Int) (I J : Nat) (x y : Int) (w : World) (hw : RawNet w ao N k ra L c X Y) (hr : RightIs N L X Y) (hI : I < N) (hJ : J < N) (ha : allowedB x y = true) :
    Calls Try.prog 14 #[.slice ao N k, .int .i64 I, .int .i64 J, .agg #[.int .i8 x, .int .i64 y]] w fun e w' => ∃ ao' k', e = .returned (.tuple #[.slice ao' N k', .int .i64 0]) ∧ Hid (Below w.heap.size w w') ∧
      Hid (∀ w'', Below w'.heap.size w' w'' → Calls Try.prog 16 #[.slice ao N k, .slice ao' N k', .agg #[.int .i64 I, .int .i64 J, .int .i8 x, .int .i64 y]] w'' fun e w3 => e = .returned (.bool true) ∧ Below w''.heap.size w'' w3) := by
  obtain ⟨g, o, rfl, _⟩ := hw.rows (by omega)
  obtain ⟨b, p, M, hn, hf⟩ := raw_right hw hr
  obtain ⟨v, rfl, rfl, hv⟩ : ∃ v : Bd, infOf v = x ∧ numOf v = y ∧ Fit v := by
    rcases (allowedB_iff _ _).1 ha with ⟨rfl, rfl⟩ | ⟨rfl, h1⟩
    · exact ⟨none, rfl, rfl, trivial⟩
    · exact ⟨some y, rfl, rfl, h1⟩
  refine (set_net g o N k b p c M hr.1 hw.le hw.top hf I J hI hJ v hv w hn).mono fun e w' he => ?_
  obtain ⟨g', o', k', b', p', c', rfl, hk1, hk2, HN, HB⟩ := he
  exact ⟨_, k', rfl, HB, fun w'' hb => set_told g o N k b p c M g' o' k' b' p' c' I J v hr.1 hw.le hk1 w'' ((hn.keep HB).keep hb) (HN.net.keep hb)⟩
end Go.Proofs.Ytnhbinghinlhgaa
