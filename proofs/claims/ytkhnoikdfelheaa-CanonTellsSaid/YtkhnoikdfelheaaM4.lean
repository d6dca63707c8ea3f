/- Contract: the divisors, as an iterator. -/
import Derived.Test.YtkhnoikdfelheaaM3
namespace Go.Proofs.Ytkhnoikdfelheaa
set_option linter.unusedVariables false
set_option linter.unusedSimpArgs false
open Go.ChangeShapes Go.WideShapes Go.ChangeAt Go.RowKit Go.Shelf
attribute [local go_sem] Oper.semAt_some
/-- What lay below, and one box, lie as they lay. -/
structure Kd (n₀ x : Nat) (W W' : World) : Prop where
  below : Below n₀ W W'
  x_ : W'.heap[x]? = W.heap[x]?
theorem Kd.refl (n₀ x : Nat) (W : World) : Kd n₀ x W W := ⟨Below.refl _ _, rfl⟩
theorem Kd.trans {n₀ x : Nat} {A B C : World} (h : Kd n₀ x A B) (k : Kd n₀ x B C) : Kd n₀ x A C := ⟨h.below.trans k.below, k.x_.trans h.x_⟩
theorem Kd.keep {n₀ x : Nat} {A B : World} (hn : n₀ ≤ A.heap.size) (hx : x < A.heap.size) (h : Below A.heap.size A B) : Kd n₀ x A B := ⟨h.mono hn, h.block x hx⟩
/-- A divisor. -/
abbrev Dv (n : Nat) := { d : Nat // 0 < d ∧ d ≤ n ∧ n % d = 0 }
def dvs (n : Nat) (d : Dv n) : Array Value := #[.int .i64 (d.1 : Int)]
set_option maxRecDepth 100000 in
set_option maxHeartbeats 4000000 in
theorem divisors_in (m : Nat) (hm : 1 ≤ m) (l x n₀ : Nat) (n : Nat) (hn : n ≤ 1000000) (J Jx : List (Dv n) → World → Prop) (W : World)
    (hY : ∀ pre z W, J pre W → pre.length < n → YieldAt Fence.wide (m - 1) Try.prog l (dvs n z) W fun e W' =>
      (e = .returned (.bool true) ∧ J (pre ++ [z]) W' ∧ Kd n₀ x W W') ∨ (e = .returned (.bool false) ∧ Jx (pre ++ [z]) W'))
    (hJ : AbidesFrom W.heap.size J)
    (hk : ∀ W', Kd n₀ x W W' → W'.cell? ⟨x, 0, none⟩ = some (.int .i64 (n : Int))) (h0 : J [] W) :
    CallsIn Fence.wide m Try.prog 67 #[.func (.yield l) #[] #[], .pointer (some ⟨x, 0, none⟩)] W fun e W' => (∃ v, e = .returned v) ∧
      ((∃ xs, (∀ d : Dv n, d ∈ xs) ∧ J xs W') ∨ (∃ pre, (∃ pre' d, pre = pre' ++ [d] ∧ ∀ e : Dv n, e.1 < d.1 → e ∈ pre') ∧ Jx pre W')) := by
  have HK := Lib.hid hk
  have HY := Lib.hid hY
  have HJ := Lib.hid hJ
  clear hk hY hJ
  refine callsIn_of_wp Try.func67 rfl trivial ?_ rfl
  simp only [Try.ntmps67, List.size_toArray, List.length_cons, List.length_nil, Nat.reduceAdd, Nat.reduceSub, Array.replicate_succ, Array.replicate_zero, List.push_toArray, List.append_toArray, List.nil_append, List.cons_append]
  gi_wp2
  gi_loopw [3] (fun i wr => ∃ (pre : List (Dv n)) (d : Nat), i = .int .i64 (d : Int) ∧ 1 ≤ d ∧ d ≤ n + 1 ∧ Hid (∀ e : Dv n, e.1 < d → e ∈ pre) ∧ Hid (pre.length < d) ∧ Hid (J pre wr) ∧ Hid (Kd n₀ x W wr)) (fun i _ => n + 1 - (intOf i).toNat)
  case atStart => exact ⟨[], 1, rfl, by omega, by omega, Lib.hid (fun e h => by have := e.2.1; omega), Lib.hid (Nat.zero_lt_one), Lib.hid h0, Lib.hid (Kd.refl _ _ _)⟩
  case round =>
    obtain ⟨pre, d, rfl, d1, d2, HC, HL, HJ0, HB⟩ := hrel
    have c1 := HK.out _ HB.out
    by_cases hd : d ≤ n
    · have t1 : (d : Int) ≤ (n : Int) := by omega
      have t2 : ¬ d = 0 := by omega
      have t3 : ¬ (d : Int) = 0 := by omega
      have t4 : ((d : Int) == 0) = false := by simp; omega
      by_cases hr : n % d = 0
      · have t5 : (((n : Int) % (d : Int)) == 0) = true := by simp; omega
        have hz : 0 < d ∧ d ≤ n ∧ n % d = 0 := ⟨by omega, hd, hr⟩
        obtain ⟨fn, tmps, assign, body, hy, hR⟩ := HY.out pre ⟨d, hz⟩ wr HJ0.out (by have := HL.out; omega)
        have HRr := Lib.hid hR
        clear hR
        dsimp only [dvs] at hy
        have HC2 : Hid (∀ e : Dv n, e.1 < d + 1 → e ∈ pre ++ [⟨d, hz⟩]) := Lib.hid (fun e he => by
          by_cases q : e.1 < d
          · exact List.mem_append_left _ (HC.out e q)
          · have e1 : e.1 = d := by omega
            have e2 : e = ⟨d, hz⟩ := Subtype.ext e1
            rw [e2]; simp)
        gi_wp2
        refine HRr.out.mono ?_
        rintro e W3 (⟨rfl, hJ3, hk3⟩ | ⟨rfl, hJx3⟩)
        · have HJ3 := Lib.hid hJ3
          have HB3 := Lib.hid (HB.out.trans hk3)
          have HL3 : Hid ((pre ++ [(⟨d, hz⟩ : Dv n)]).length < d + 1) := Lib.hid (by have := HL.out; simp; omega)
          clear hy hJ3 hk3 HRr c1
          gi_wp2
          go_roundw
          case rel => exact ⟨_, d + 1, by go_num, by omega, by omega, HC2, HL3, HJ3, HB3⟩
          case measure => simp [intOf]; omega
        · have HJx3 := Lib.hid hJx3
          clear hy hJx3 HRr c1
          gi_wp2
          refine bodyPost_ret (results_none rfl _ _ _) rfl ?_
          exact ⟨⟨_, rfl⟩, .inr ⟨_, ⟨pre, ⟨d, hz⟩, rfl, HC.out⟩, HJx3.out⟩⟩
      · have t5 : (((n : Int) % (d : Int)) == 0) = false := by simp; omega
        have HC2 : Hid (∀ e : Dv n, e.1 < d + 1 → e ∈ pre) := Lib.hid (fun e he => by
          by_cases q : e.1 < d
          · exact HC.out e q
          · have e1 : e.1 = d := by omega
            have := e.2.2.2
            rw [e1] at this
            exact absurd this hr)
        have HL2 : Hid (pre.length < d + 1) := Lib.hid (by have := HL.out; omega)
        gi_wp2
        refine ⟨fun _ h => (by cases h), ?_⟩
        gi_wp2
        go_roundw
        case rel => exact ⟨_, d + 1, by go_num, by omega, by omega, HC2, HL2, HJ0, HB⟩
        case measure => simp [intOf]; omega
    · obtain rfl : d = n + 1 := by omega
      have HALL : Hid (∀ e : Dv n, e ∈ pre) := Lib.hid (fun e => HC.out e (by have := e.2.2.1; omega))
      have t1 : ¬ ((n + 1 : Nat) : Int) ≤ (n : Int) := by omega
      have t2 : decide (((n : Int) + 1) ≤ (n : Int)) = false := by simp; omega
      gi_wp2
      go_end0
      exact ⟨⟨_, rfl⟩, .inl ⟨pre, (by first | exact HALL.out | simpa using HALL.out), HJ0.out⟩⟩
end Go.Proofs.Ytkhnoikdfelheaa
