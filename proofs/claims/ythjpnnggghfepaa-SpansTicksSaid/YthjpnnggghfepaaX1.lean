/- Contracts: the program's Right. -/
import Derived.Test.YthjpnnggghfepaaU2
import Derived.Test.YthjpnnggghfepaaM1
import Derived.Test.YthjpnnggghfepaaS7
import Derived.IntWalk
namespace Go.Proofs.Ythjpnnggghfepaa
set_option linter.unusedVariables false
set_option linter.unusedSimpArgs false
open Go.ChangeShapes Go.WideShapes Go.ChangeAt Go.RowKit
theorem tick_is (t : Int) (r : Bool) (h : tickB t = r) (w : World) : Calls Try.prog 36 #[.int .i64 t] w fun e w' => e = .returned (.bool r) ∧ w' = w := by
  subst h; exact (tick_any t w).mono fun e w' ⟨h1, h2⟩ => ⟨h1, h2.symm⟩
theorem rt_prefix : ∀ {a b : List Sp} {lo : Int}, Rt lo (a ++ b) → Rt lo a
  | [], _, _, _ => trivial
  | s :: r, b, lo, ⟨h1, h2, h3, h4⟩ => ⟨h1, h2, h3, rt_prefix h4⟩
/-- The next span keeps it right. -/
theorem good_step {l : List Sp} {i : Nat} (hi : i < l.length) (h : Good (l.take i)) : Good (l.take (i + 1)) ↔ l[i].1 ≤ l[i].2 ∧ -1099511627776 ≤ l[i].1 ∧ l[i].2 ≤ 1099511627776 ∧ (∀ j (hj : j < l.length), j + 1 = i → l[j].2 + 2 ≤ l[i].1) := by
  rw [List.take_succ_eq_append_getElem hi]
  show Rt _ _ ↔ _
  rw [rt_snoc]
  cases i with
  | zero =>
    simp only [List.take_zero, Rt, nxt, true_and]
    constructor
    · rintro ⟨a, b, c⟩; exact ⟨b, a, c, fun j hj e => by omega⟩
    · rintro ⟨a, b, c, _⟩; exact ⟨b, a, c⟩
  | succ k =>
    have hk : k < l.length := by omega
    have e : nxt (-1099511627776) (l.take (k + 1)) = l[k].2 + 2 := by rw [List.take_succ_eq_append_getElem hk, nxt_snoc]
    have g := nxt_le h
    rw [e] at g ⊢
    constructor
    · rintro ⟨_, a, b, c⟩; exact ⟨b, by omega, c, fun j hj e => by
        have e3 : j = k := by omega
        subst e3
        exact a⟩
    · rintro ⟨a, b, c, d⟩; exact ⟨h, d k hk rfl, a, c⟩
set_option maxHeartbeats 1000000 in
theorem right_any (ao : Option Addr) (n c : Nat) (l : List Sp) (w : World) (hl : SpAt w ao n c l) (r : Bool) (hr : r = true ↔ Good l) :
    Calls Try.prog 14 #[.slice ao n c] w fun e w' => e = .returned (.bool r) ∧ Below w.heap.size w w' := by
  have HL := Lib.hid hl
  have HR := Lib.hid hr
  have LN := Lib.hid hl.len
  have hmx : n ≤ 9223372036854775807 := Nat.le_trans hl.le hl.top
  clear hl hr
  go_enter Try.func14, Try.ntmps14
  go_wp2
  go_loopw [7] (fun ii wr => ∃ i : Nat, i ≤ n ∧ ii = .int .i64 i ∧ Hid (Good (l.take i)) ∧ Hid (Below w.heap.size w wr)) (fun ii _ => n - (intOf ii).toNat)
  case atStart => exact ⟨0, Nat.zero_le _, rfl, Lib.hid trivial, Lib.hid (Below.refl _ _)⟩
  case round =>
    obtain ⟨i, hi, rfl, HI, HW⟩ := hrel
    by_cases ilt : i < n
    · obtain ⟨b, p, rfl, hc⟩ := HL.out.here (by omega)
      have hil : i < l.length := by rw [LN.out]; exact ilt
      have c1 := cell_keep (hc i hil).1 HW.out
      have c2 := cell_keep (hc i hil).2 HW.out
      have HST := Lib.hid (good_step hil HI.out)
      have HNO : Hid (¬ Good (l.take (i + 1)) → false = r) := Lib.hid (fun h => by
        cases r
        · rfl
        · have := HR.out.1 rfl
          rw [← List.take_append_drop (i + 1) l] at this
          exact absurd (rt_prefix this) h)
      have i0' : (0 : Int) ≤ (i : Int) := by omega
      have i1' : (i : Int) < (n : Int) := by omega
      have HP : Hid (∀ k, k + 1 = i → ∃ z : Int, (∀ W, Below wr.heap.size wr W → W.cell? ⟨b, p + k * 2 + 1, none⟩ = some (.int .i64 z)) ∧ (-1099511627776 ≤ z ∧ z ≤ 1099511627776) ∧ ∀ (hk : k < l.length), l[k].2 = z) := Lib.hid (fun k hk => by
        have hkl : k < l.length := by omega
        refine ⟨l[k].2, fun W hW => cell_keep (cell_keep (hc k hkl).2 HW.out) hW, ?_, fun _ => rfl⟩
        have q := good_at HI.out k (by rw [List.length_take]; omega)
        rw [List.getElem_take] at q
        omega)
      clear hc
      obtain ⟨s, hs⟩ : ∃ z, l[i] = z := ⟨_, rfl⟩
      rw [hs] at c1 c2 HST
      have HIL := Lib.hid hil
      clear hs hil
      obtain ⟨x, y⟩ := s
      simp only at c1 c2
      have b1 := (box_cells wr (.int .i64 x) (.int .i64 y) 35).1
      have b2 := (box_cells wr (.int .i64 x) (.int .i64 y) 35).2
      have KA := Lib.hid ((Below.refl _ wr).alloc (Nat.le_refl _) (.cells #[.int .i64 x, .int .i64 y] 35))
      have HW2 := Lib.hid (HW.out.alloc HW.out.size (.cells #[.int .i64 x, .int .i64 y] 35))
      by_cases h1 : y < x
      · have HF := Lib.hid (HNO.out (fun g => by have := (HST.out.1 g).1; simp only at this; omega))
        clear HP HST HNO HR HI
        go_upto_region 4 with fail
        clear c1 c2 HL
        go_quiet (fail)
        go_wp2
        go_returns
        exact ⟨ret_bool HF.out, below_drewN HW2.out _⟩
      · cases h2 : tickB x
        · have HF := Lib.hid (HNO.out (fun g => by
            have := HST.out.1 g; simp only at this
            have q := (tickB_iff x).2 (by omega); rw [h2] at q; cases q))
          have T1 := Lib.hid (tick_is x _ h2)
          clear h2
          clear HP HST HNO HR HI
          go_upto_region 4 with fail
          clear c1 c2 HL
          go_quiet ((first | (go_at_call 36; with_reducible exact Calls.quiet_of_same (T1.out _)) | fail))
          go_wp2
          go_returns
          exact ⟨ret_bool HF.out, below_drewN HW2.out _⟩
        · cases h3 : tickB y
          · have HF := Lib.hid (HNO.out (fun g => by
              have := HST.out.1 g; simp only at this
              have q := (tickB_iff y).2 (by omega); rw [h3] at q; cases q))
            have T1 := Lib.hid (tick_is x _ h2)
            have T2 := Lib.hid (tick_is y _ h3)
            clear h2 h3
            clear HP HST HNO HR HI
            go_upto_region 4 with fail
            clear c1 c2 HL
            go_quiet ((first | (go_at_call 36; with_reducible exact Calls.quiet_of_same (T1.out _)) | (go_at_call 36; with_reducible exact Calls.quiet_of_same (T2.out _)) | fail))
            go_wp2
            go_returns
            exact ⟨ret_bool HF.out, below_drewN HW2.out _⟩
          · have HX := Lib.hid ((tickB_iff x).1 h2)
            have HY := Lib.hid ((tickB_iff y).1 h3)
            have T1 := Lib.hid (tick_is x _ h2)
            have T2 := Lib.hid (tick_is y _ h3)
            clear h2 h3
            by_cases h4 : i = 0
            · subst h4
              simp only [Nat.zero_mul, Nat.add_zero] at c1 c2
              have HOK : Hid (Good (l.take (0 + 1))) := Lib.hid (HST.out.2 ⟨by simp only; omega, HX.out.1, HY.out.2, fun j hj e => by omega⟩)
              clear HP HST HNO HR HI
              go_upto_region 4 with fail
              clear c1 c2 HL
              go_quiet ((first | (go_at_call 36; with_reducible exact Calls.quiet_of_same (T1.out _)) | (go_at_call 36; with_reducible exact Calls.quiet_of_same (T2.out _)) | fail))
              go_wp2
              go_roundw
              case rel => exact ⟨0 + 1, by omega, by go_num, HOK, Lib.hid (below_drewN HW2.out _)⟩
              case measure => simp [intOf]; omega
            · obtain ⟨k, hk⟩ : ∃ k, k + 1 = i := ⟨i - 1, by omega⟩
              obtain ⟨z, hz, ⟨hz1, hz2⟩, hz3⟩ := HP.out k hk
              have d1 := hz _ KA.out
              have e1 : IntKind.i64.wrap ((i : Int) - 1) = (k : Int) := by rw [IntWalk.i64_in _ (by omega)]; omega
              have k0 : (0 : Int) ≤ (k : Int) := by omega
              have k1 : (k : Int) < (n : Int) := by omega
              have k2 : k < n := by omega
              have k3 : (0 : Int) < (i : Int) := by omega
              have k4 : 0 < i := by omega
              have HZ3 := Lib.hid hz3
              have HKI := Lib.hid hk
              clear hz hz3
              by_cases h5 : x < z + 2
              · have HF := Lib.hid (HNO.out (fun g => by
                  have q := (HST.out.1 g).2.2.2 k (by have := HIL.out; have := HKI.out; omega) HKI.out
                  rw [HZ3.out] at q; simp only at q; omega))
                clear hk
                clear HP HST HNO HR HI
                go_upto_region 4 with fail
                clear c1 c2 HL
                go_quiet ((first | (go_at_call 36; with_reducible exact Calls.quiet_of_same (T1.out _)) | (go_at_call 36; with_reducible exact Calls.quiet_of_same (T2.out _)) | fail))
                go_wp2
                go_returns
                exact ⟨ret_bool HF.out, below_drewN HW2.out _⟩
              · have HOK : Hid (Good (l.take (i + 1))) := Lib.hid (HST.out.2 ⟨by simp only; omega, HX.out.1, HY.out.2, fun j hj e => by
                  have hkk := HKI.out
                  obtain rfl : j = k := by omega
                  rw [HZ3.out]; simp only; omega⟩)
                clear hk
                clear HP HST HNO HR HI
                go_upto_region 4 with fail
                clear c1 c2 HL
                go_quiet ((first | (go_at_call 36; with_reducible exact Calls.quiet_of_same (T1.out _)) | (go_at_call 36; with_reducible exact Calls.quiet_of_same (T2.out _)) | fail))
                go_wp2
                go_roundw
                case rel => exact ⟨i + 1, by omega, by go_num, HOK, Lib.hid (below_drewN HW2.out _)⟩
                case measure => simp [intOf]; omega
    · obtain rfl : i = n := by omega
      have HF : Hid (true = r) := Lib.hid (by
        have h := HI.out
        rw [List.take_of_length_le (by rw [LN.out]; exact Nat.le_refl _)] at h
        exact (HR.out.2 h).symm)
      go_wp2
      go_returns
      exact ⟨ret_bool HF.out, HW.out⟩
end Go.Proofs.Ythjpnnggghfepaa
