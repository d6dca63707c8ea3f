/- Contracts: comparing, searching; where an exception is. -/
import Derived.Test.YtacpcokmgahjaaaDoorG5
namespace Go.Proofs.YtacpcokmgahjaaaDoor
set_option linter.unusedVariables false
set_option linter.unusedSimpArgs false
open Go.ChangeShapes Go.WideShapes Go.ChangeAt Go.RowKit
theorem isNaN_any (a : Int) (w : World) : Calls Tryd.prog 111 #[.int .i64 a] w fun e w' => e = .returned (.bool false) ∧ w' = w := by
  have t1 : (a != a) = false := by simp
  go_enter Tryd.func111, Tryd.ntmps111
  go_wp2
  go_returns
  exact ⟨rfl, rfl⟩
theorem isNaN2_any (a : Int) (w : World) : Calls Tryd.prog 124 #[.int .i64 a] w fun e w' => e = .returned (.bool false) ∧ w' = w := by
  have t1 : (a != a) = false := by simp
  go_enter Tryd.func124, Tryd.ntmps124
  go_wp2
  go_returns
  exact ⟨rfl, rfl⟩
def cmpI (a b : Int) : Int := if a < b then -1 else if b < a then 1 else 0
theorem cmp_any (a b : Int) (w : World) : Calls Tryd.prog 93 #[.int .i64 a, .int .i64 b] w fun e w' => e = .returned (.int .i64 (cmpI a b)) ∧ w' = w := by
  by_cases h1 : a < b
  · have HE : Hid (cmpI a b = -1) := Lib.hid (by unfold cmpI; rw [if_pos h1])
    go_enter Tryd.func93, Tryd.ntmps93
    go_wp2_with (go_at_call 111; (with_reducible refine (isNaN_any _ _).mono ?_); rintro e w' ⟨rfl, rfl⟩)
    go_returns
    exact ⟨ret_int (by rw [HE.out]), rfl⟩
  · by_cases h2 : b < a
    · have HE : Hid (cmpI a b = 1) := Lib.hid (by unfold cmpI; rw [if_neg h1, if_pos h2])
      go_enter Tryd.func93, Tryd.ntmps93
      go_wp2_with (go_at_call 111; (with_reducible refine (isNaN_any _ _).mono ?_); rintro e w' ⟨rfl, rfl⟩)
      go_returns
      exact ⟨ret_int (by rw [HE.out]), rfl⟩
    · have HE : Hid (cmpI a b = 0) := Lib.hid (by unfold cmpI; rw [if_neg h1, if_neg h2])
      go_enter Tryd.func93, Tryd.ntmps93
      go_wp2_with (go_at_call 111; (with_reducible refine (isNaN_any _ _).mono ?_); rintro e w' ⟨rfl, rfl⟩)
      go_returns
      exact ⟨ret_int (by rw [HE.out]), rfl⟩
theorem cmpLess_any (a b : Int) (r : Bool) (hr : decide (a < b) = r) (w : World) : Calls Tryd.prog 123 #[.int .i64 a, .int .i64 b] w fun e w' => e = .returned (.bool r) ∧ w' = w := by
  have HR := Lib.hid hr
  clear hr
  go_enter Tryd.func123, Tryd.ntmps123
  go_wp2_with (go_at_call 111; (with_reducible refine (isNaN_any _ _).mono ?_); rintro e w' ⟨rfl, rfl⟩)
  go_returns
  exact ⟨ret_bool HR.out, rfl⟩
theorem odd1_any (x t : Int) (o : Option Addr) (k d : Nat) (w : World) : Calls Tryd.prog 92 #[.agg #[.int .i64 x, .slice o k d], .int .i64 t] w fun e w' => e = .returned (.int .i64 (cmpI x t)) ∧ Below w.heap.size w w' := by
  obtain ⟨b, hb⟩ : ∃ b, w.heap.size = b := ⟨_, rfl⟩
  obtain ⟨wb, hwb⟩ : ∃ wb, w.alloc (.cells #[.int .i64 x, .slice o k d] 75) = wb := ⟨_, rfl⟩
  have f1 : wb.cell? ⟨b, 0, none⟩ = some (.int .i64 x) := by rw [← hwb, ← hb]; exact (box_cells w (.int .i64 x) (.slice o k d) 75).1
  have HB : Hid (Below w.heap.size w wb) := Lib.hid (by rw [← hwb]; exact (Below.refl _ w).alloc (Nat.le_refl _) _)
  go_enter Tryd.func92, Tryd.ntmps92
  go_upto_region 1 with fail
  clear hwb hb
  go_wp2_with (go_at_call 93; (with_reducible refine (cmp_any _ _ _).mono ?_); rintro e w' ⟨rfl, rfl⟩)
  go_returns
  exact ⟨rfl, HB.out⟩
/-- Where the exception of an index is, or would be. -/
structure OIs (os : List Gr) (t : Int) (i : Nat) : Prop where
  low : ∀ j (h : j < os.length), j < i → os[j].1 < t
  high : ∀ j (h : j < os.length), i ≤ j → t ≤ os[j].1
theorem inc_at {os : List Gr} (h : os.Pairwise (fun a b => a.1 < b.1)) (i j : Nat) (hi : i < os.length) (hj : j < os.length) (q : i < j) : os[i].1 < os[j].1 := List.pairwise_iff_getElem.1 h i j hi hj q
theorem inc_le {os : List Gr} (h : os.Pairwise (fun a b => a.1 < b.1)) (i j : Nat) (hi : i < os.length) (hj : j < os.length) (q : i ≤ j) : os[i].1 ≤ os[j].1 := by
  by_cases e : i = j
  · subst e; exact Int.le_refl _
  · have := inc_at h i j hi hj (by omega); omega
theorem cmpI_neg {a b : Int} (h : a < b) : cmpI a b = -1 := by unfold cmpI; rw [if_pos h]
theorem cmpI_pos {a b : Int} (h : ¬ a < b) : cmpI a b = 0 ∨ cmpI a b = 1 := by
  unfold cmpI; rw [if_neg h]; by_cases q : b < a
  · rw [if_pos q]; exact .inr rfl
  · rw [if_neg q]; exact .inl rfl
theorem cmpI_eq (a b : Int) : (cmpI a b == 0) = decide (a = b) := by
  unfold cmpI
  by_cases h : a < b
  · rw [if_pos h]; have : a ≠ b := by omega
    simp [this]
  · rw [if_neg h]; by_cases q : b < a
    · rw [if_pos q]; have : a ≠ b := by omega
      simp [this]
    · rw [if_neg q]; have : a = b := by omega
      simp [this]
set_option maxHeartbeats 1000000 in
theorem bsf_any (oo : Option Addr) (on oc : Nat) (os : List Gr) (t : Int) (w : World) (ho : OdAt w oo on oc os) (hs : os.Pairwise (fun a b => a.1 < b.1)) (hn : on ≤ 1099511627776) :
    Calls Tryd.prog 91 #[.slice oo on oc, .int .i64 t, .func (.func 92) #[] #[]] w fun e w' => ∃ (i : Nat) (f : Bool), i ≤ on ∧ e = .returned (.tuple #[.int .i64 i, .bool f]) ∧ Hid (OIs os t i) ∧ Hid (f = true ↔ ∃ h : i < os.length, os[i].1 = t) ∧ Hid (Below w.heap.size w w') := by
  have HO := Lib.hid ho
  have LO := Lib.hid ho.len
  have HS := Lib.hid hs
  clear ho hs
  go_enter Tryd.func91, Tryd.ntmps91
  go_wp2
  go_loopw [9, 10] (fun i j wr => ∃ a b : Nat, i = .int .i64 a ∧ j = .int .i64 b ∧ a ≤ b ∧ b ≤ on ∧ Hid ((∀ j (h : j < os.length), j < a → os[j].1 < t) ∧ ∀ j (h : j < os.length), b ≤ j → t ≤ os[j].1) ∧ Hid (Below w.heap.size w wr)) (fun i j _ => (intOf j - intOf i).toNat)
  case atStart => exact ⟨0, on, rfl, rfl, Nat.zero_le _, Nat.le_refl _, Lib.hid ⟨fun j _ h => absurd h (Nat.not_lt_zero _), fun j h q => by have := LO.out; omega⟩, Lib.hid (Below.refl _ _)⟩
  case round =>
    obtain ⟨a, b, rfl, rfl, hab, hbn, HI, HB⟩ := hrel
    by_cases hlt : a < b
    · obtain ⟨m, hm⟩ : ∃ m : Nat, (a + b) / 2 = m := ⟨_, rfl⟩
      have hm1 : a ≤ m := by omega
      have hm2 : m < b := by omega
      have hmi : ((a : Int) + (b : Int)) / 2 = (m : Int) := by omega
      have HOW := HO.out.keep HB.out
      obtain ⟨g, p, rfl, hc⟩ := HOW.here (by omega)
      have hml : m < os.length := by rw [LO.out]; omega
      obtain ⟨d1, ⟨o, k, d, d2, d3⟩, d4, d5⟩ := hc m hml
      have HL : Hid (∀ j (h : j < os.length), j ≤ m → os[j].1 ≤ os[m].1) := Lib.hid (fun j h q => inc_le HS.out j m h hml q)
      have HH : Hid (∀ j (h : j < os.length), m ≤ j → os[m].1 ≤ os[j].1) := Lib.hid (fun j h q => inc_le HS.out m j hml h q)
      have HM := Lib.hid hml
      clear hm hc d3 HOW
      obtain ⟨z, hz⟩ : ∃ q, (os[m]'hml).1 = q := ⟨_, rfl⟩
      rw [hz] at d1 d4 d5 HL HH
      clear hz
      clear hml
      have m0 : (0 : Int) ≤ (m : Int) := by omega
      have m1 : (m : Int) < (on : Int) := by omega
      have HCL := Lib.hid (odd1_any z t o k d)
      by_cases hq : z < t
      · have HI2 : Hid ((∀ j (h : j < os.length), j < m + 1 → os[j].1 < t) ∧ ∀ j (h : j < os.length), b ≤ j → t ≤ os[j].1) := Lib.hid ⟨fun j h q => by have := HL.out j h (by omega); omega, HI.out.2⟩
        rw [cmpI_neg hq] at HCL
        clear HI HL HH HM
        go_wp2_with fail
        (with_reducible refine (HCL.out _).mono ?_)
        rintro e w1 ⟨rfl, b1⟩
        have HB1 := Lib.hid (HB.out.trans (b1.mono HB.out.size))
        clear b1
        go_wp2
        go_roundw
        case rel => exact ⟨m + 1, b, by go_num, rfl, by omega, hbn, HI2, HB1⟩
        case measure => simp [intOf]; omega
      · have HI2 : Hid ((∀ j (h : j < os.length), j < a → os[j].1 < t) ∧ ∀ j (h : j < os.length), m ≤ j → t ≤ os[j].1) := Lib.hid ⟨HI.out.1, fun j h q => by have := HH.out j h q; omega⟩
        obtain ⟨y, hy, hy0⟩ : ∃ y, cmpI z t = y ∧ ¬ y < 0 := ⟨_, rfl, by rcases cmpI_pos hq with h | h <;> omega⟩
        rw [hy] at HCL
        clear HI HL HH HM hy
        go_wp2_with fail
        (with_reducible refine (HCL.out _).mono ?_)
        rintro e w1 ⟨rfl, b1⟩
        have HB1 := Lib.hid (HB.out.trans (b1.mono HB.out.size))
        clear b1
        go_wp2
        go_roundw
        case rel => exact ⟨a, m, rfl, rfl, hm1, by omega, HI2, HB1⟩
        case measure => simp [intOf]; omega
    · obtain rfl : a = b := by omega
      by_cases hn2 : a < on
      · have HOW := HO.out.keep HB.out
        obtain ⟨g, p, rfl, hc⟩ := HOW.here (by omega)
        have hml : a < os.length := by rw [LO.out]; omega
        obtain ⟨d1, ⟨o, k, d, d2, d3⟩, d4, d5⟩ := hc a hml
        have HM := Lib.hid hml
        have HZ : Hid ((os[a]'hml).1 = t ↔ ∃ h : a < os.length, os[a].1 = t) := Lib.hid ⟨fun h => ⟨HM.out, h⟩, fun ⟨_, h⟩ => h⟩
        clear hc d3 HOW
        obtain ⟨z, hz⟩ : ∃ q, (os[a]'hml).1 = q := ⟨_, rfl⟩
        rw [hz] at d1 d4 d5
        have HZ2 : Hid (z = t ↔ ∃ h : a < os.length, os[a].1 = t) := Lib.hid (by rw [← HZ.out, hz])
        clear hz HZ
        clear hml
        have HCL := Lib.hid (odd1_any z t o k d)
        have HE := Lib.hid (cmpI_eq z t)
        obtain ⟨y, hy⟩ : ∃ y, cmpI z t = y := ⟨_, rfl⟩
        rw [hy] at HCL HE
        clear hy
        have m0 : (0 : Int) ≤ (a : Int) := by omega
        have m1 : (a : Int) < (on : Int) := by omega
        go_wp2_with fail
        (with_reducible refine (HCL.out _).mono ?_)
        rintro e w1 ⟨rfl, b1⟩
        have HB1 := Lib.hid (HB.out.trans (b1.mono HB.out.size))
        clear b1
        go_wp2
        go_returns
        exact ⟨a, decide (z = t), hbn, by rw [← HE.out]; (first | done | rfl | (simp; done)), Lib.hid ⟨HI.out.1, HI.out.2⟩, Lib.hid (by rw [decide_eq_true_iff]; exact HZ2.out), HB1⟩
      · have hf : a = on := by omega
        go_wp2
        go_returns
        exact ⟨a, false, hbn, rfl, Lib.hid ⟨HI.out.1, HI.out.2⟩, Lib.hid ⟨fun h => (by cases h), fun ⟨h, _⟩ => by have := LO.out; omega⟩, HB⟩
theorem odd_any (F : Fv) (t : Int) (w : World) (hF : F.At w) (hs : F.os.Pairwise (fun a b => a.1 < b.1)) (hn : F.on ≤ 1099511627776) :
    Calls Tryd.prog 57 #[F.v, .int .i64 t] w fun e w' => ∃ (i : Nat) (f : Bool), i ≤ F.on ∧ e = .returned (.tuple #[.int .i64 i, .bool f]) ∧ Hid (OIs F.os t i) ∧ Hid (f = true ↔ ∃ h : i < F.os.length, F.os[i].1 = t) ∧ Hid (Below w.heap.size w w') := by
  obtain ⟨P, N, co, cn, cc, oo, on, oc, cs, os⟩ := F
  have LC : Hid (cs.length = cn) := Lib.hid hF.core.len
  have LO : Hid (os.length = on) := Lib.hid hF.odd.len
  have hmc : cn ≤ 9223372036854775807 := Nat.le_trans hF.core.le hF.core.top
  have hmo : on ≤ 9223372036854775807 := Nat.le_trans hF.odd.le hF.odd.top
  have HS : Hid (os.Pairwise (fun a b => a.1 < b.1)) := Lib.hid hs
  have hn : on ≤ 1099511627776 := hn
  obtain ⟨b, hb⟩ : ∃ b, w.heap.size = b := ⟨_, rfl⟩
  obtain ⟨wb, hwb⟩ : ∃ wb, w.alloc (.cells #[.int .i64 P, .int .i64 N, .slice co cn cc, .slice oo on oc] 29) = wb := ⟨_, rfl⟩
  have HBB : Hid (Fbox ⟨P, N, co, cn, cc, oo, on, oc, cs, os⟩ w wb b) := Lib.hid (by rw [← hwb, ← hb]; exact fbox_new hF)
  clear hF
  show Calls Tryd.prog 57 #[.agg #[.int .i64 P, .int .i64 N, .slice co cn cc, .slice oo on oc], .int .i64 t] w _
  go_enter Tryd.func57, Tryd.ntmps57
  go_upto_region 1 with fail
  clear hwb hb
  have e3 : wb.cell? ⟨b, 3, none⟩ = some (.slice oo on oc) := HBB.out.c3
  have HC := Lib.hid (bsf_any oo on oc os t wb HBB.out.at_.odd HS.out hn)
  clear HS
  go_wp2_with fail
  (with_reducible refine HC.out.mono ?_)
  rintro e w1 ⟨i, f, h1, rfl, h2, h3, h4⟩
  go_wp2
  go_returns
  exact ⟨i, f, h1, rfl, h2, h3, Lib.hid (HBB.out.bw.trans (h4.out.mono HBB.out.bw.size))⟩
end Go.Proofs.YtacpcokmgahjaaaDoor
