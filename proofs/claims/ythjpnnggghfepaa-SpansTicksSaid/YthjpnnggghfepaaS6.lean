/- Contracts: Ahead, Same, Alike, Hull. -/
import Derived.Test.YthjpnnggghfepaaS5
import Derived.IntWalk
namespace Go.Proofs.Ythjpnnggghfepaa
set_option linter.unusedVariables false
set_option linter.unusedSimpArgs false
open Go.ChangeShapes Go.WideShapes Go.ChangeAt Go.RowKit
theorem ahead_any (ao bo : Option Addr) (n c m d : Nat) (a b : List Sp) (w : World) (ha : SpAt w ao n c a) (hb : SpAt w bo m d b) (ga : Good a) (gb : Good b) (r : Bool) (hr : r = true ↔ ∀ s ∈ a, ∀ u ∈ b, s.2 < u.1) :
    Calls Try.prog 25 #[.slice ao n c, .slice bo m d] w fun e w' => e = .returned (.bool r) ∧ Below w.heap.size w w' := by
  have LA := ha.len
  have LB := hb.len
  by_cases h1 : n = 0
  · have HE : Hid (true = r) := Lib.hid (by
      obtain rfl : a = [] := List.eq_nil_of_length_eq_zero (by omega)
      exact (hr.2 (fun s h => by cases h)).symm)
    have t1 : ((n : Int) == 0) = true := by simp; omega
    clear h1 hr LA LB ha hb ga gb
    go_enter Try.func25, Try.ntmps25
    go_wp2
    go_quiet (fail)
    go_wp2
    go_returns
    exact ⟨ret_bool HE.out, below_drewN (Below.refl _ _) _⟩
  · by_cases h2 : m = 0
    · have HE : Hid (true = r) := Lib.hid (by
        obtain rfl : b = [] := List.eq_nil_of_length_eq_zero (by omega)
        exact (hr.2 (fun s h u hu => by cases hu)).symm)
      have t1 : ((n : Int) == 0) = false := by simp; omega
      have t2 : ((m : Int) == 0) = true := by simp; omega
      clear h1 h2 hr LA LB ha hb ga gb
      go_enter Try.func25, Try.ntmps25
      go_wp2
      go_quiet (fail)
      go_wp2
      go_returns
      exact ⟨ret_bool HE.out, below_drewN (Below.refl _ _) _⟩
    · obtain ⟨x, p, rfl, hc⟩ := ha.here (by omega)
      obtain ⟨y, q, rfl, hd⟩ := hb.here (by omega)
      have hk : n - 1 < a.length := by omega
      have hm : 0 < b.length := by omega
      have c1 := (hc (n - 1) hk).2
      have d1 := (hd 0 hm).1
      have HE : Hid (decide (a[n - 1].2 < b[0].1) = r) := Lib.hid (by
        by_cases z : a[n - 1].2 < b[0].1
        · rw [decide_eq_true z]
          refine (hr.2 (fun s hs u hu => ?_)).symm
          obtain ⟨i, hi, rfl⟩ := List.getElem_of_mem hs
          obtain ⟨j, hj, rfl⟩ := List.getElem_of_mem hu
          have e1 := good_le ga i (n - 1) hi hk (by omega)
          have e2 : b[0].1 ≤ b[j].1 := by
            by_cases w : j = 0
            · subst w; exact Int.le_refl _
            · have := good_lt gb 0 j hm hj (by omega)
              have := good_at gb 0 hm
              omega
          omega
        · rw [decide_eq_false z]
          cases r
          · rfl
          · exact absurd (hr.1 rfl _ (List.getElem_mem hk) _ (List.getElem_mem hm)) z)
      have hmx : n ≤ 9223372036854775807 := Nat.le_trans ha.le ha.top
      obtain ⟨k, hkk⟩ : ∃ k, n - 1 = k := ⟨_, rfl⟩
      have e1 : IntKind.i64.wrap ((n : Int) - 1) = (k : Int) := by rw [IntWalk.i64_in _ (by omega)]; omega
      have k0 : (0 : Int) ≤ (k : Int) := by omega
      have k1 : (k : Int) < (n : Int) := by omega
      have k2 : 0 < m := by omega
      have k3 : (0 : Int) < (m : Int) := by omega
      have t1 : ((n : Int) == 0) = false := by simp; omega
      have t2 : ((m : Int) == 0) = false := by simp; omega
      obtain ⟨X, hX⟩ : ∃ z, a[n - 1].2 = z := ⟨_, rfl⟩
      obtain ⟨Y, hY⟩ : ∃ z, b[0].1 = z := ⟨_, rfl⟩
      rw [hX, hkk] at c1
      rw [hY] at d1
      rw [hX, hY] at HE
      simp only [Nat.zero_mul, Nat.add_zero] at d1
      clear hX hY hkk hc hd hr ha hb ga gb LA LB h1 h2 hk hm
      go_enter Try.func25, Try.ntmps25
      go_wp2
      go_quiet (fail)
      go_wp2
      go_returns
      exact ⟨ret_bool HE.out, below_drewN (Below.refl _ _) _⟩
theorem take_eq_iff {a b : List Sp} (h : a.length = b.length) {k : Nat} (hk : k < a.length) (e : a.take k = b.take k) : a.take (k + 1) = b.take (k + 1) ↔ a[k] = b[k]'(by omega) := by
  have h1 := List.take_succ_eq_append_getElem hk
  have h2 := List.take_succ_eq_append_getElem (show k < b.length by omega)
  rw [h1, h2, e]
  exact ⟨fun z => (List.cons.inj (List.append_cancel_left z)).1, fun z => by rw [z]⟩
theorem equal_any (ao bo : Option Addr) (n c m d : Nat) (a b : List Sp) (w : World) (ha : SpAt w ao n c a) (hb : SpAt w bo m d b) (r : Bool) (hr : r = true ↔ a = b) :
    Calls Try.prog 48 #[.slice ao n c, .slice bo m d] w fun e w' => e = .returned (.bool r) ∧ Below w.heap.size w w' := by
  have HA := Lib.hid ha
  have HB := Lib.hid hb
  have HR := Lib.hid hr
  have hmx : n ≤ 9223372036854775807 := Nat.le_trans ha.le ha.top
  have LA := Lib.hid ha.len
  have LB := Lib.hid hb.len
  clear ha hb hr
  by_cases hnm : n = m
  · subst hnm
    have t1 : ((n : Int) != (n : Int)) = false := by simp
    go_enter Try.func48, Try.ntmps48
    go_wp2
    go_loopw [13] (fun ii wr => ∃ i : Nat, i ≤ n ∧ ii = .int .i64 i ∧ Hid (a.take i = b.take i) ∧ Hid (Below w.heap.size w wr)) (fun ii _ => n - (intOf ii).toNat)
    case atStart => exact ⟨0, Nat.zero_le _, rfl, Lib.hid rfl, Lib.hid (Below.refl _ _)⟩
    case round =>
      obtain ⟨i, hi, rfl, HI, HW⟩ := hrel
      by_cases ilt : i < n
      · obtain ⟨x, p, rfl, hc⟩ := HA.out.here (by omega)
        obtain ⟨y, q, rfl, hd⟩ := HB.out.here (by omega)
        have hia : i < a.length := by rw [LA.out]; exact ilt
        have hib : i < b.length := by rw [LB.out]; exact ilt
        have c1 := cell_keep (hc i hia).1 HW.out
        have c2 := cell_keep (hc i hia).2 HW.out
        have d1 := cell_keep (hd i hib).1 HW.out
        have d2 := cell_keep (hd i hib).2 HW.out
        have HT := Lib.hid (take_eq_iff (by rw [LA.out, LB.out]) hia HI.out)
        have HG : Hid (a = b → a[i] = b[i]) := Lib.hid (fun z => by subst z; rfl)
        have i0 : (0 : Int) ≤ (i : Int) := by omega
        have i1 : (i : Int) < (n : Int) := by omega
        clear hc hd
        obtain ⟨s, hs⟩ : ∃ z, a[i] = z := ⟨_, rfl⟩
        obtain ⟨u, hu⟩ : ∃ z, b[i] = z := ⟨_, rfl⟩
        rw [hs] at c1 c2 HT HG
        rw [hu] at d1 d2 HT HG
        obtain ⟨s1, s2⟩ := s
        obtain ⟨u1, u2⟩ := u
        simp only at c1 c2 d1 d2
        clear hs hu
        by_cases e1 : s1 = u1
        · by_cases e2 : s2 = u2
          · subst e1 e2
            have HI2 : Hid (a.take (i + 1) = b.take (i + 1)) := Lib.hid (HT.out.2 rfl)
            have t3 : (s1 == s1) = true := by simp
            have t4 : (s2 == s2) = true := by simp
            go_wp2
            go_quiet (fail)
            go_wp2
            go_roundw
            case rel => exact ⟨i + 1, by omega, by go_num, HI2, Lib.hid (below_drewN HW.out _)⟩
            case measure => simp [intOf]; omega
          · have HF : Hid (false = r) := Lib.hid (by
              cases r
              · rfl
              · have := HG.out (HR.out.1 rfl); simp only [Prod.mk.injEq] at this; exact absurd this.2 e2)
            have t3 : (s2 == u2) = false := by simpa using e2
            subst e1
            clear e2
            go_wp2
            go_quiet (fail)
            go_wp2
            go_returns
            exact ⟨ret_bool HF.out, below_drewN HW.out _⟩
        · have HF : Hid (false = r) := Lib.hid (by
            cases r
            · rfl
            · have := HG.out (HR.out.1 rfl); simp only [Prod.mk.injEq] at this; exact absurd this.1 e1)
          have t3 : (s1 == u1) = false := by simpa using e1
          clear e1
          go_wp2
          go_quiet (fail)
          go_wp2
          go_returns
          exact ⟨ret_bool HF.out, below_drewN HW.out _⟩
      · have HF : Hid (true = r) := Lib.hid (by
          have h := HI.out
          rw [List.take_of_length_le (by rw [LA.out]; omega), List.take_of_length_le (by rw [LB.out]; omega)] at h
          exact (HR.out.2 h).symm)
        go_wp2
        go_returns
        exact ⟨ret_bool HF.out, HW.out⟩
  · have t1 : ((n : Int) != (m : Int)) = true := by simp; omega
    have HF : Hid (false = r) := Lib.hid (by
      cases r
      · rfl
      · have := HR.out.1 rfl; subst this; have := LA.out; have := LB.out; omega)
    clear hnm
    go_enter Try.func48, Try.ntmps48
    go_wp2
    go_returns
    exact ⟨ret_bool HF.out, Below.refl _ _⟩
theorem same_any (ao bo : Option Addr) (n c m d : Nat) (a b : List Sp) (w : World) (ha : SpAt w ao n c a) (hb : SpAt w bo m d b) (r : Bool) (hr : r = true ↔ a = b) :
    Calls Try.prog 27 #[.slice ao n c, .slice bo m d] w fun e w' => e = .returned (.bool r) ∧ Below w.heap.size w w' := by
  have E := Lib.hid (equal_any ao bo n c m d a b w ha hb r hr)
  clear ha hb hr
  go_enter Try.func27, Try.ntmps27
  go_wp2_with (go_at_call 48; (with_reducible refine (E.out).mono ?_); rintro e w1 ⟨rfl, b1⟩)
  go_returns
  exact ⟨rfl, b1⟩
end Go.Proofs.Ythjpnnggghfepaa
