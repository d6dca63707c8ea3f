/- Plain: the sets of the six forms, however far; the forms are right. -/
import Derived.Test.YtacpcokmgahjaaaDoorB12
import Derived.Test.YtacpcokmgahjaaaDoorG20
import Derived.Test.YtacpcokmgahjaaaDoorM6
namespace Go.Proofs.YtacpcokmgahjaaaDoor
set_option linter.unusedVariables false
set_option linter.unusedSimpArgs false
open Go.ChangeShapes Go.WideShapes Go.ChangeAt Go.RowKit
theorem dayS_up (m : Int) : dayS m < dayS (m + 1) := by
  unfold dayS Cal.num
  by_cases h : m % 12 = 11
  · have e1 : (m + 1) / 12 = m / 12 + 1 := by omega
    have e2 : (m + 1) % 12 = 0 := by omega
    have a := Cal.bef_bd (1970 + m / 12) (m % 12 + 1) (by omega) (by omega)
    have b := Cal.start_succ (1970 + m / 12)
    have c := Cal.lp_01 (1970 + m / 12)
    have d := Cal.bef_mono (1970 + m / 12) (m % 12 + 1) 13 (by omega) (by omega) (by omega)
    have f := Cal.bef_last (1970 + m / 12)
    have g := Cal.bef_one (1970 + m / 12 + 1)
    rw [e1, e2, show 1970 + (m / 12 + 1) = 1970 + m / 12 + 1 by omega, show (0 : Int) + 1 = 1 by rfl, g]
    omega
  · have e1 : (m + 1) / 12 = m / 12 := by omega
    have e2 : (m + 1) % 12 = m % 12 + 1 := by omega
    have d := Cal.bef_mono (1970 + m / 12) (m % 12 + 1) (m % 12 + 1 + 1) (by omega) (by omega) (by omega)
    rw [e1, e2]
    omega
theorem dayS_turn (m : Int) : dayS (m + 4800) = dayS m + 146097 := by
  unfold dayS Cal.num
  have e1 : (m + 4800) / 12 = m / 12 + 400 := by omega
  have e2 : (m + 4800) % 12 = m % 12 := by omega
  rw [e1, e2, show 1970 + (m / 12 + 400) = 1970 + m / 12 + 400 by omega, Cal.start_400, Cal.bef_400]
  omega
theorem dayS_far (m : Int) (n : Nat) : dayS m + n ≤ dayS (m + n) := by
  induction n with
  | zero => simp
  | succ k ih => have := dayS_up (m + k); rw [show m + ((k + 1 : Nat) : Int) = m + k + 1 by omega]; omega
theorem dayS_mono {a b : Int} (h : a < b) : dayS a < dayS b := by
  have := dayS_far a (b - a).toNat
  rw [show a + (((b - a).toNat : Nat) : Int) = b by omega] at this
  omega
/-- Where a granule of a form begins. -/
def bB : Nat → Int → Int
  | 0, q => q
  | 1, q => q
  | 2, q => 7 * q - 3
  | 3, q => dayS q
  | 4, q => dayS (3 * q)
  | _, q => dayS (12 * q)
theorem bB_up (i : Nat) (q : Int) : bB i q < bB i (q + 1) := by
  match i with
  | 0 => show q < q + 1; omega
  | 1 => show q < q + 1; omega
  | 2 => show 7 * q - 3 < 7 * (q + 1) - 3; omega
  | 3 => exact dayS_up q
  | 4 => exact dayS_mono (by omega)
  | _ + 5 => exact dayS_mono (by omega)
theorem bB_turn (i : Nat) (q : Int) : bB i (q + (bN i : Int)) = bB i q + bP i := by
  match i with
  | 0 => rfl
  | 1 => rfl
  | 2 => show 7 * (q + 1) - 3 = 7 * q - 3 + 7; omega
  | 3 => exact dayS_turn q
  | 4 => show dayS (3 * (q + 1600)) = dayS (3 * q) + 146097; rw [show 3 * (q + 1600) = 3 * q + 4800 by omega]; exact dayS_turn _
  | _ + 5 => show dayS (12 * (q + 400)) = dayS (12 * q) + 146097; rw [show 12 * (q + 400) = 12 * q + 4800 by omega]; exact dayS_turn _
theorem bB_turns (i : Nat) (q : Int) (n : Nat) : bB i (q + (bN i : Int) * n) = bB i q + bP i * n := by
  induction n with
  | zero => simp
  | succ k ih =>
    rw [show q + (bN i : Int) * ((k + 1 : Nat) : Int) = q + (bN i : Int) * k + (bN i : Int) by rw [Int.natCast_succ, Int.mul_add]; omega, bB_turn, ih, Int.natCast_succ, Int.mul_add]
    omega
theorem bB_all (i : Nat) (q d : Int) : bB i (q + (bN i : Int) * d) = bB i q + bP i * d := by
  rcases Int.le_total 0 d with h | h
  · obtain ⟨n, rfl⟩ := Int.eq_ofNat_of_zero_le h
    exact bB_turns i q n
  · obtain ⟨n, hn⟩ := Int.eq_ofNat_of_zero_le (show 0 ≤ -d by omega)
    obtain rfl : d = -(n : Int) := by omega
    have := bB_turns i (q + (bN i : Int) * -(n : Int)) n
    rw [Int.mul_neg, show q + -((bN i : Int) * (n : Int)) + (bN i : Int) * (n : Int) = q by omega] at this
    rw [Int.mul_neg, Int.mul_neg]
    omega
theorem bC_len (i : Nat) : (bC i).length = bN i := by
  match i with
  | 0 => rfl
  | 1 => rfl
  | 2 => rfl
  | 3 => exact monC_len 1 4800
  | 4 => exact monC_len 3 1600
  | _ + 5 => exact monC_len 12 400
theorem bC_at (i : Nat) (r : Nat) (h : r < bN i) : (bC i)[r]? = some [(bB i r, bB i (r + 1) - 1)] := by
  match i, h with
  | 0, h => obtain rfl : r = 0 := by have : r < 1 := h; omega
            rfl
  | 1, h => obtain rfl : r = 0 := by have : r < 1 := h; omega
            rfl
  | 2, h => obtain rfl : r = 0 := by have : r < 1 := h; omega
            rfl
  | 3, h => exact core_m h (congrArg dayS (by simp)) (by show dayS _ - 1 = dayS _ - 1; congr 2; simp)
  | 4, h => exact core_m h (congrArg dayS (by omega)) (by show dayS _ - 1 = dayS _ - 1; congr 2; omega)
  | _ + 5, h => exact core_m h (congrArg dayS (by omega)) (by show dayS _ - 1 = dayS _ - 1; congr 2; omega)
theorem bC_mem {i : Nat} {l : List Sp} (h : l ∈ bC i) : ∃ r, r < bN i ∧ l = [(bB i r, bB i (r + 1) - 1)] := by
  obtain ⟨r, hr, e⟩ := List.getElem_of_mem h
  refine ⟨r, by rw [← bC_len]; exact hr, ?_⟩
  have := bC_at i r (by rw [← bC_len]; exact hr)
  rw [List.getElem?_eq_getElem hr, e] at this
  exact Option.some.inj this
theorem bB_far (i : Nat) (m : Int) (n : Nat) : bB i m + n ≤ bB i (m + n) := by
  induction n with
  | zero => simp
  | succ k ih => have := bB_up i (m + k); rw [show m + ((k + 1 : Nat) : Int) = m + k + 1 by omega]; omega
theorem bB_mono (i : Nat) {a b : Int} (h : a < b) : bB i a < bB i b := by
  have := bB_far i a (b - a).toNat
  rw [show a + (((b - a).toNat : Nat) : Int) = b by omega] at this
  omega
theorem bB_le (i : Nat) {a b : Int} (h : a ≤ b) : bB i a ≤ bB i b := by
  rcases Int.lt_or_eq_of_le h with h | rfl
  · exact Int.le_of_lt (bB_mono i h)
  · exact Int.le_refl _
theorem bB_zero (i : Nat) : -3 ≤ bB i 0 ∧ bB i 0 ≤ 0 := by
  have e : dayS 0 = 0 := by decide
  match i with
  | 0 => exact ⟨by decide, by decide⟩
  | 1 => exact ⟨by decide, by decide⟩
  | 2 => exact ⟨by decide, by decide⟩
  | 3 => exact ⟨by show -3 ≤ dayS 0; omega, by show dayS 0 ≤ 0; omega⟩
  | 4 => exact ⟨by show -3 ≤ dayS 0; omega, by show dayS 0 ≤ 0; omega⟩
  | _ + 5 => exact ⟨by show -3 ≤ dayS 0; omega, by show dayS 0 ≤ 0; omega⟩
theorem bB_in (i : Nat) {r : Int} (h0 : 0 ≤ r) (h1 : r ≤ (bN i : Int)) : -3 ≤ bB i r ∧ bB i r ≤ bP i := by
  have a := bB_zero i
  have b := bB_le i h0
  have c := bB_le i h1
  have d := bB_turn i 0
  rw [Int.zero_add] at d
  omega
/-- A form of the six, wherever it lies. -/
def bF (i : Nat) (co : Option Addr) (cc : Nat) (oo : Option Addr) (oc : Nat) : Fv := ⟨bP i, (bN i : Int), co, bN i, cc, oo, 0, oc, bC i, []⟩
theorem bF_rt (i : Nat) (co : Option Addr) (cc : Nat) (oo : Option Addr) (oc : Nat) : (bF i co cc oo oc).Rt := by
  have hP := bP_bd i
  have hN := bN_bd i
  refine ⟨.inr ⟨?_, rfl, hP.1, Int.le_trans hP.2 (by decide)⟩, fun l hl => ?_, oddOk_nil, ⟨?_, ?_⟩, fun k => ⟨fun h => absurd h (by simp [bF]), fun h => absurd h (by simp [bF])⟩⟩
  · show (bN i : Int) ≠ 0
    omega
  · obtain ⟨r, hr, rfl⟩ := bC_mem hl
    have a := bB_in i (r := r) (by omega) (by omega)
    have b := bB_in i (r := r + 1) (by omega) (by omega)
    have c := bB_up i r
    refine ⟨?_, ?_, ?_, trivial⟩ <;> simp only [] <;> omega
  · show (bC i).Pairwise Ahd
    rw [List.pairwise_iff_getElem]
    intro a b ha hb hab s hs u hu
    have e1 := bC_at i a (by rw [← bC_len]; exact ha)
    have e2 := bC_at i b (by rw [← bC_len]; exact hb)
    rw [List.getElem?_eq_getElem ha] at e1
    rw [List.getElem?_eq_getElem hb] at e2
    rw [Option.some.inj e1, List.mem_singleton] at hs
    rw [Option.some.inj e2, List.mem_singleton] at hu
    subst hs hu
    have := bB_le i (show (a : Int) + 1 ≤ b by omega)
    show bB i (a + 1) - 1 < bB i b
    omega
  · intro a ha b hb s hs u hu
    obtain ⟨r, hr, rfl⟩ := bC_mem ha
    obtain ⟨q, hq, rfl⟩ := bC_mem hb
    rw [List.mem_singleton] at hs hu
    subst hs hu
    have h1 := bB_le i (show (r : Int) + 1 ≤ 0 + (bN i : Int) by omega)
    have h2 := bB_turn i 0
    have h3 := bB_le i (show (0 : Int) ≤ q by omega)
    show bB i (r + 1) - 1 < bB i q + bP i
    omega
theorem lens_one : ∀ (l : List (List Sp)), (∀ x ∈ l, x.length = 1) → lens l = l.length
  | [], _ => rfl
  | x :: r, h => by simp [lens, h x (by simp), lens_one r (fun y hy => h y (by simp [hy]))]; omega
theorem bF_mid (i : Nat) (co : Option Addr) (cc : Nat) (oo : Option Addr) (oc : Nat) : (bF i co cc oo oc).Mid := by
  have hN := bN_bd i
  refine ⟨by show bN i ≤ 6000; omega, Nat.zero_le _, ?_⟩
  show lens (bC i) + lens (tks []) ≤ 60000
  rw [lens_one _ (bC_one i), bC_len]
  show bN i + 0 ≤ 60000
  omega
theorem bF_gr (i : Nat) (co : Option Addr) (cc : Nat) (oo : Option Addr) (oc : Nat) (q : Int) : gr (bF i co cc oo oc) q = [(bB i q, bB i (q + 1) - 1)] := by
  have hN := bN_bd i
  show cg (bC i) (bP i) (bN i : Int) q = _
  unfold cg
  rw [if_pos ⟨by omega, by rw [bC_len]⟩]
  have hf : q.fmod (bN i : Int) = q % (bN i : Int) := Int.fmod_eq_emod_of_nonneg _ (by omega)
  have hd : q.fdiv (bN i : Int) = q / (bN i : Int) := Int.fdiv_eq_ediv_of_nonneg _ (by omega)
  have m0 := Int.emod_nonneg q (show (bN i : Int) ≠ 0 by omega)
  have m1 := Int.emod_lt_of_pos q (show (0 : Int) < (bN i : Int) by omega)
  unfold cset
  rw [hf, hd]
  obtain ⟨r, hr⟩ := Int.eq_ofNat_of_zero_le m0
  have e := bC_at i r (by omega)
  rw [hr, Int.toNat_natCast, List.getD_eq_getElem?_getD, e]
  have q1 := bB_all i r (q / (bN i : Int))
  have q2 := bB_all i (r + 1) (q / (bN i : Int))
  have q3 : (r : Int) + (bN i : Int) * (q / (bN i : Int)) = q := by have := Int.emod_add_mul_ediv q (bN i : Int); omega
  rw [show (r : Int) + 1 + (bN i : Int) * (q / (bN i : Int)) = q + 1 by omega] at q2
  rw [q3] at q1
  show [(bB i r + bP i * (q / (bN i : Int)), bB i (r + 1) - 1 + bP i * (q / (bN i : Int)))] = _
  rw [q1, q2, show bB i (↑r + 1) - 1 + bP i * (q / ↑(bN i)) = bB i (↑r + 1) + bP i * (q / ↑(bN i)) - 1 by omega]
theorem bB_bd (i : Nat) {q : Int} (h0 : -1100000000 ≤ q) (h1 : q ≤ 1100000000) : -900000000000 ≤ bB i q ∧ bB i q ≤ 900000000000 := by
  have hN := bN_bd i
  have e3 : (q % (bN i : Int)) + (bN i : Int) * (q / (bN i : Int)) = q := Int.emod_add_mul_ediv q (bN i : Int)
  have m0 := Int.emod_nonneg q (show (bN i : Int) ≠ 0 by omega)
  have m1 := Int.emod_lt_of_pos q (show (0 : Int) < (bN i : Int) by omega)
  have e := bB_all i (q % (bN i : Int)) (q / (bN i : Int))
  rw [e3] at e
  have b := bB_in i m0 (Int.le_of_lt m1)
  generalize bB i (q % (bN i : Int)) = x at e b
  rw [e]
  clear e
  match i, hN, e3, m0, m1, b with
  | 0, hN, e3, m0, m1, b => change -3 ≤ x ∧ x ≤ 1 at b; show _ ≤ x + 1 * (q / 1) ∧ x + 1 * (q / 1) ≤ _; omega
  | 1, hN, e3, m0, m1, b => change -3 ≤ x ∧ x ≤ 1 at b; show _ ≤ x + 1 * (q / 1) ∧ x + 1 * (q / 1) ≤ _; omega
  | 2, hN, e3, m0, m1, b => change -3 ≤ x ∧ x ≤ 7 at b; show _ ≤ x + 7 * (q / 1) ∧ x + 7 * (q / 1) ≤ _; omega
  | 3, hN, e3, m0, m1, b => change -3 ≤ x ∧ x ≤ 146097 at b; show _ ≤ x + 146097 * (q / 4800) ∧ x + 146097 * (q / 4800) ≤ _; omega
  | 4, hN, e3, m0, m1, b => change -3 ≤ x ∧ x ≤ 146097 at b; show _ ≤ x + 146097 * (q / 1600) ∧ x + 146097 * (q / 1600) ≤ _; omega
  | _ + 5, hN, e3, m0, m1, b => change -3 ≤ x ∧ x ≤ 146097 at b; show _ ≤ x + 146097 * (q / 400) ∧ x + 146097 * (q / 400) ≤ _; omega
theorem bF_told (i : Nat) (co : Option Addr) (cc : Nat) (oo : Option Addr) (oc : Nat) {q : Int} (h0 : -1090000000 ≤ q) (h1 : q ≤ 1090000000) : Told q (gr (bF i co cc oo oc) q) := by
  refine ⟨⟨by omega, by omega⟩, ?_⟩
  rw [bF_gr]
  intro s hs
  rw [List.mem_singleton] at hs
  subst hs
  have a := bB_bd i (q := q) (by omega) (by omega)
  have b := bB_bd i (q := q + 1) (by omega) (by omega)
  show (-1099511627776 ≤ bB i q ∧ bB i q ≤ 1099511627776) ∧ -1099511627776 ≤ bB i (q + 1) - 1 ∧ bB i (q + 1) - 1 ≤ 1099511627776
  omega
end Go.Proofs.YtacpcokmgahjaaaDoor
