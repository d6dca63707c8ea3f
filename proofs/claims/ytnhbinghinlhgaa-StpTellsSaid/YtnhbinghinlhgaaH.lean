/- Contracts: Close: the closure of a network. -/
import Derived.Test.YtnhbinghinlhgaaF
import Derived.Test.YtnhbinghinlhgaaG
namespace Go.Proofs.Ytnhbinghinlhgaa
set_option linter.unusedVariables false
set_option linter.unusedSimpArgs false
open Go.ChangeShapes Go.WideShapes Go.ChangeAt Go.RowKit

/-- What Close tells. -/
def CloseIs (w w' : World) (n : Nat) (e : Ending) : Option Mat → Prop
  | some C => ∃ g o k b p c, e = .returned (.tuple #[.slice (some ⟨g, o, none⟩) n k, .bool true, .int .i64 0]) ∧ n ≤ k ∧ k ≤ 9223372036854775807 ∧ Hid (NetOwn w' w.heap.size g o n b p c C) ∧ Hid (Below w.heap.size w w')
  | none => e = .returned (.tuple #[.slice none 0 0, .bool false, .int .i64 0]) ∧ Hid (Below w.heap.size w w')
theorem neg_num (x : Bd) : Bd.neg x = decide (numOf x < 0) := by cases x <;> rfl
def diaK (i : Nat) (M : Mat) : Mat := fun a d => if a = d ∧ a < i then some 0 else M a d
theorem phases_dead {n : Nat} {M : Mat} {k : Nat} (h : phases n k M = none) : ∀ m, k ≤ m → phases n m M = none := by
  intro m hm
  induction m with
  | zero => rw [show 0 = k by omega]; exact h
  | succ m ih =>
    by_cases q : k = m + 1
    · rw [← q]; exact h
    · simp only [phases, ih (by omega)]
theorem closed_dead {n k : Nat} {M M' : Mat} (hk : k < n) (h : phases n k M = some M') (o : oddB n M' = true) : closed n M = none := by
  have e : phases n (k + 1) M = none := by simp only [phases, h, o, if_true]
  simp only [closed, phases_dead e n (by omega)]
theorem oddB_at {n i : Nat} {M : Mat} (hi : i < n) (h : Bd.neg (M i i) = true) : oddB n M = true := (oddB_iff n M).2 ⟨i, hi, h⟩
theorem two_pow {Q : Int} (hQ : 0 ≤ Q) {k n : Nat} (h : k ≤ n) : (2 : Int) ^ k * Q ≤ 2 ^ n * Q := by
  refine Int.mul_le_mul_of_nonneg_right ?_ hQ
  induction n with
  | zero => rw [show k = 0 by omega]; exact Int.le_refl _
  | succ n ih =>
    by_cases q : k = n + 1
    · rw [q]; exact Int.le_refl _
    · have := ih (by omega)
      have p : (0 : Int) < 2 ^ n := Int.pow_pos (by decide)
      rw [Int.pow_succ]
      omega

set_option maxRecDepth 100000 in
set_option maxHeartbeats 4000000 in
theorem close_net (Q : Int) (hQ0 : 0 ≤ Q) (g o n k : Nat) (b p c : Nat → Nat) (M : Mat) (hQ : 2 ^ n * Q ≤ 4611686018427387903) (h0 : 0 < n) (hn : n ≤ 24) (hk : n ≤ k) (hk' : k ≤ 9223372036854775807) (hF : Fits n M) (hM : Within n Q M) (w : World) (hw : NetAt w g o n b p c M) :
    Calls Try.prog 17 #[.slice (some ⟨g, o, none⟩) n k] w fun e w' => CloseIs w w' n e (closed n M) := by
  have R := Lib.hid (right_net g o n k b p c M hn hk hk' hF w hw)
  have C := Lib.hid (fun (w' : World) (hb : Below w.heap.size w w') => copied_net g o n k b p c M hn h0 hk hk' w' (hw.keep hb))
  have HPW := Lib.hid (fun (k : Nat) (M' : Mat) (h : k ≤ n) (e : phases n k M = some M') => within_phases hQ0 hM k M' h e)
  have HQ := Lib.hid (fun (k : Nat) (h : k ≤ n) => Int.le_trans (two_pow hQ0 h) hQ)
  have HQ0 := Lib.hid (fun (k : Nat) => Int.mul_nonneg (Int.le_of_lt (Int.pow_pos (by decide : (0 : Int) < 2)) : (0 : Int) ≤ 2 ^ k) hQ0)
  clear hw hF hM hQ hQ0 hk hk'
  go_enter Try.func17, Try.ntmps17
  go_wp2_with (first
    | (go_at_call 11; (with_reducible refine (R.out).mono ?_); rintro e w1 ⟨rfl, b1⟩; have HB1 := Lib.hid b1; clear b1)
    | (go_at_call 28; (with_reducible refine (C.out _ HB1.out).mono ?_); rintro e w2 ⟨g', o', k', b', p', c', rfl, hk1, hk2, HN, HB2⟩))
  have HN0 := Lib.hid (HN.out.lower HB1.out.size)
  have HB0 := Lib.hid (HB1.out.trans (HB2.out.mono HB1.out.size))
  clear HN HB2 HB1 R C
  go_loopw [16] (fun kk wr => ∃ (k : Nat) (M' : Mat), k ≤ n ∧ kk = .int .i64 k ∧ Hid (phases n k M = some M') ∧ Hid (NetOwn wr w.heap.size g' o' n b' p' c' M') ∧ Hid (Below w.heap.size w wr)) (fun kk _ => n - (intOf kk).toNat)
  case atStart => exact ⟨0, M, Nat.zero_le _, rfl, Lib.hid rfl, HN0, HB0⟩
  case round =>
    clear HN0 HB0
    obtain ⟨k, M', hk, rfl, HP, HN, HB⟩ := hrel
    by_cases klt : k < n
    · go_wp2
      go_loopw [21] (fun ii wi => ∃ i : Nat, i ≤ n ∧ ii = .int .i64 i ∧ Hid (oddB i M' = false) ∧ Hid (NetOwn wi w.heap.size g' o' n b' p' c' (diaK i M')) ∧ Hid (Below w.heap.size w wi)) (fun ii _ => n - (intOf ii).toNat)
      case atStart => exact ⟨0, Nat.zero_le _, rfl, Lib.hid rfl, Lib.hid (HN.out.ext (fun a d _ _ => by simp only [diaK]; rw [if_neg (by omega)])), HB⟩
      case round =>
        clear HN HB
        obtain ⟨i, hi, rfl, HO, HN, HB⟩ := hrel
        by_cases ilt : i < n
        · have i0 : (0 : Int) ≤ (i : Int) := by omega
          have i1 : (i : Int) < (n : Int) := by omega
          have d3 := HN.out.net.row i ilt
          have d4 := (HN.out.net.cells i ilt).inf i ilt
          have d5 := (HN.out.net.cells i ilt).num i ilt
          have e3 : diaK i M' i i = M' i i := by simp only [diaK]; rw [if_neg (by omega)]
          rw [e3] at d4 d5
          have n1 := HN.out.free i ilt (p' i + i * 2)
          have n2 := HN.out.free i ilt (p' i + i * 2 + 1)
          have lo := HN.out.low i ilt
          have HG := Lib.hid (neg_num (M' i i))
          have HPUT := Lib.hid (HN.out.put ilt ilt (some 0))
          obtain ⟨x3, hx3⟩ : ∃ q, infOf (M' i i) = q := ⟨_, rfl⟩
          obtain ⟨y3, hy3⟩ : ∃ q, numOf (M' i i) = q := ⟨_, rfl⟩
          rw [hx3] at d4
          rw [hy3] at d5 HG
          obtain ⟨bi, hbi⟩ : ∃ q, b' i = q := ⟨_, rfl⟩
          obtain ⟨pi, hpi⟩ : ∃ q, p' i = q := ⟨_, rfl⟩
          obtain ⟨ci, hci⟩ : ∃ q, c' i = q := ⟨_, rfl⟩
          rw [hbi, hpi, hci] at d3
          rw [hbi, hpi] at d4 d5 n1 n2 HPUT
          rw [hbi] at lo
          clear hbi hpi hci hx3 hy3 e3
          by_cases hneg : y3 < 0
          · have HC := Lib.hid (closed_dead klt HP.out (oddB_at ilt (HG.out.trans (decide_eq_true hneg))))
            clear HPUT
            go_wp2
            go_returns
            rw [HC.out]
            exact ⟨rfl, HB⟩
          · have HO2 : Hid (oddB (i + 1) M' = false) := Lib.hid (by simp only [oddB]; rw [HO.out, HG.out, decide_eq_false hneg]; rfl)
            have HP2 := Lib.hid (HPUT.out.ext (N := diaK (i + 1) M') (fun a d _ _ => by
              simp only [upd, diaK]
              by_cases z : a = i ∧ d = i
              · rw [if_pos z, if_pos (by omega)]
              · rw [if_neg z]
                by_cases z2 : a = d ∧ a < i
                · rw [if_pos z2, if_pos (by omega)]
                · rw [if_neg z2, if_neg (by omega)]))
            have HB2 := Lib.hid ((HB.out.setCell (p := ⟨bi, pi + i * 2, none⟩) lo (.int .i8 0)).setCell (p := ⟨bi, pi + i * 2 + 1, none⟩) lo (.int .i64 0))
            clear HPUT HO HG
            go_wp2
            go_roundw
            case rel => exact ⟨i + 1, by omega, by go_num, HO2, HP2, HB2⟩
            case measure => simp [intOf]; omega
        · have hin : i = n := by omega
          subst hin
          have HD := Lib.hid (HN.out.ext (N := dia M') (fun a d ha _ => by
            simp only [diaK, dia]
            by_cases z : a = d
            · rw [if_pos ⟨z, ha⟩, if_pos z]
            · rw [if_neg (fun x => z x.1), if_neg z]))
          have HSZ := HB.out.size
          have SH := Lib.hid (shorten_net (2 ^ k * Q) (HQ.out k (by omega)) w.heap.size g' o' i k' k b' p' c' (dia M') hn hk1 hk2 klt (within_dia (HQ0.out k) (HPW.out k M' (by omega) HP.out)) (if_pos rfl) wr HSZ HD.out)
          have HP2 : Hid (phases i (k + 1) M = some (fw k (dia M'))) := Lib.hid (by simp only [phases, HP.out]; rw [if_neg (by rw [HO.out]; decide)])
          clear HN HO HSZ
          go_wp2_with (go_at_call 30; (with_reducible refine (SH.out).mono ?_); rintro e w3 ⟨rfl, hn3, hb3⟩; have HN3 := Lib.hid hn3; have HB3 := Lib.hid (HB.out.trans hb3); clear hn3 hb3)
          go_roundw
          case rel => exact ⟨k + 1, _, by omega, by go_num, HP2, HN3, HB3⟩
          case measure => simp [intOf]; omega
    · have hkn : k = n := by omega
      subst hkn
      go_wp2
      go_loopw [47] (fun ii wi => wi = wr ∧ ∃ i : Nat, i ≤ k ∧ ii = .int .i64 i ∧ Hid (oddB i M' = false)) (fun ii _ => k - (intOf ii).toNat)
      case atStart => exact ⟨rfl, 0, Nat.zero_le _, rfl, Lib.hid rfl⟩
      case round =>
        obtain ⟨rfl, i, hi, rfl, HO⟩ := hrel
        by_cases ilt : i < k
        · have i0 : (0 : Int) ≤ (i : Int) := by omega
          have i1 : (i : Int) < (k : Int) := by omega
          have d3 := HN.out.net.row i ilt
          have d4 := (HN.out.net.cells i ilt).inf i ilt
          have d5 := (HN.out.net.cells i ilt).num i ilt
          have HG := Lib.hid (neg_num (M' i i))
          obtain ⟨x3, hx3⟩ : ∃ q, infOf (M' i i) = q := ⟨_, rfl⟩
          obtain ⟨y3, hy3⟩ : ∃ q, numOf (M' i i) = q := ⟨_, rfl⟩
          rw [hx3] at d4
          rw [hy3] at d5 HG
          clear hx3 hy3
          generalize b' i = bi at *
          generalize p' i = pi at *
          generalize c' i = ci at *
          by_cases hneg : y3 < 0
          · have HC : Hid (closed k M = none) := Lib.hid (by simp only [closed, HP.out]; rw [if_pos (oddB_at ilt (HG.out.trans (decide_eq_true hneg)))])
            go_wp2
            go_returns
            rw [HC.out]
            exact ⟨rfl, HB⟩
          · have HO2 : Hid (oddB (i + 1) M' = false) := Lib.hid (by simp only [oddB]; rw [HO.out, HG.out, decide_eq_false hneg]; rfl)
            go_wp2
            go_roundw
            case rel => exact ⟨trivial, i + 1, by omega, by go_num, HO2⟩
            case measure => simp [intOf]; omega
        · have hik : i = k := by omega
          subst hik
          have HC : Hid (closed i M = some M') := Lib.hid (by simp only [closed, HP.out]; rw [if_neg (by rw [HO.out]; decide)])
          go_wp2
          go_returns
          rw [HC.out]
          exact ⟨g', o', k', b', p', c', rfl, hk1, hk2, HN, HB⟩
end Go.Proofs.Ytnhbinghinlhgaa
