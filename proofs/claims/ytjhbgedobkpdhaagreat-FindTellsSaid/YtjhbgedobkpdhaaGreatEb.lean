/- Ported. -/
import Derived.Test.YtjhbgedobkpdhaaGreatEa
namespace Go.Proofs.YtjhbgedobkpdhaaGreat
set_option linter.unusedVariables false
set_option linter.unusedSimpArgs false
open Go.ChangeShapes Go.WideShapes Go.ChangeAt Go.RowKit
set_option maxRecDepth 8000 in
set_option maxHeartbeats 2000000 in
theorem least_60_32 (n0 : Nat) (ls : List (List Sp)) (hn : ls.length = n0) (hn1 : n0 ≤ 1000000) (g : Nat) (ed : List Sp → Int) (t : Int) (w : World)
    (hset : ∀ i (h : i < ls.length), Calls Tryz.prog 59 #[.int .i64 (i : Int), .pointer (some ⟨g, 0, none⟩)] w fun e w' => ∃ ao n c, e = .returned (.slice ao n c) ∧ Hid (SpAt w ao n c ls[i]) ∧ w' = w)
    (hedge : ∀ ao n c l, SpAt w ao n c l → l ≠ [] → Calls Tryz.prog 31 #[.slice ao n c] w fun e w' => e = .returned (.int .i64 (ed l)) ∧ w' = w)
    (hmono : ∀ i j (hi : i < ls.length) (hj : j < ls.length), i ≤ j → ls[i] ≠ [] → ls[j] ≠ [] → ed ls[i] ≤ ed ls[j]) :
    Calls Tryz.prog 29 #[.int .i64 (n0 : Int), .func (.func 59) #[] #[.pointer (some ⟨g, 0, none⟩)], .func (.func 31) #[] #[], .int .i64 t] w fun e w' => ∃ r : Nat, e = .returned (.int .i64 (r : Int)) ∧ Hid (LeastIs ls ed t r) ∧ w' = w := by
  have HS := Lib.hid hset
  have HE := Lib.hid hedge
  have HM := Lib.hid hmono
  have HN := Lib.hid hn
  clear hset hedge hmono hn
  go_enter Tryz.func29, Tryz.ntmps29
  have H0 : Hid ((∀ j (h : j < ls.length), j < 0 → ls[j] ≠ [] → ed ls[j] < t) ∧ ∀ h : n0 < ls.length, ls[n0] ≠ [] ∧ t ≤ ed ls[n0]) := Lib.hid ⟨fun j _ z => by omega, fun h => by have := HN.out; omega⟩
  go_wp2_with fail
  go_loop [0, 9, 10] (fun a b c => ∃ lo hi : Nat, lo ≤ hi ∧ hi ≤ n0 ∧ a = .int .i64 (hi : Int) ∧ b = .int .i64 (lo : Int) ∧ c = .int .i64 (hi : Int) ∧ Hid ((∀ j (h : j < ls.length), j < lo → ls[j] ≠ [] → ed ls[j] < t) ∧ ∀ h : hi < ls.length, ls[hi] ≠ [] ∧ t ≤ ed ls[hi])) (fun a b c => (intOf c).toNat - (intOf b).toNat)
  case atStart => exact ⟨0, n0, Nat.zero_le _, Nat.le_refl _, rfl, rfl, rfl, H0⟩
  case round =>
    clear H0
    obtain ⟨lo, hi, h1, h2, rfl, rfl, rfl, HI⟩ := hrel
    by_cases hlt : lo < hi
    · have z0 : (lo : Int) < (hi : Int) := by omega
      obtain ⟨m, hm⟩ : ∃ m : Nat, ((lo : Int) + (hi : Int)).tdiv 2 = (m : Int) := ⟨(lo + hi) / 2, by rw [Int.tdiv_eq_ediv_of_nonneg (by omega)]; omega⟩
      have hm2 : ((lo : Int) + (hi : Int)) / 2 = (m : Int) := by rw [← hm, Int.tdiv_eq_ediv_of_nonneg (by omega)]
      have a1 : (0 : Int) ≤ (lo : Int) := by omega
      have a2 : (hi : Int) ≤ 1000000 := by omega
      have m1 : lo ≤ m := by omega
      have m2 : m < hi := by omega
      clear hm2
      go_upto_region 5 with fail
      have H1 : Hid (∀ j (h : j < ls.length), (m : Int) < (j : Int) → j ≤ m → ls[j] = []) := Lib.hid (fun j _ a b => by omega)
      go_loop [12] (fun a => ∃ i : Int, (lo : Int) - 1 ≤ i ∧ i ≤ (m : Int) ∧ a = .int .i64 i ∧ Hid (∀ j (h : j < ls.length), i < (j : Int) → j ≤ m → ls[j] = [])) (fun a => (intOf a - (lo : Int) + 1).toNat)
      case atStart => exact ⟨m, by omega, by omega, rfl, H1⟩
      case round =>
        clear H1
        obtain ⟨i, i1, i2, rfl, HJ⟩ := hrel
        by_cases il : i < (lo : Int)
        · have t24 : decide ((lo : Int) ≤ i) = false := by simp; omega
          have t36 : decide (i < (lo : Int)) = true := by simp; omega
          have HNX : Hid ((∀ j (h : j < ls.length), j < m + 1 → ls[j] ≠ [] → ed ls[j] < t) ∧ ∀ h : hi < ls.length, ls[hi] ≠ [] ∧ t ≤ ed ls[hi]) := Lib.hid ⟨fun j h q ne => by
            rcases Nat.lt_or_ge j lo with z | z
            · exact HI.out.1 j h z ne
            · exact absurd (HJ.out j h (by omega) (by omega)) ne, HI.out.2⟩
          go_wp2
          go_round
          case rel => exact ⟨m + 1, hi, by omega, by omega, rfl, by go_num, rfl, HNX⟩
          case measure => simp [intOf]; omega
        · obtain ⟨k, rfl⟩ : ∃ k : Nat, i = (k : Int) := ⟨i.toNat, by omega⟩
          have t24 : decide ((lo : Int) ≤ (k : Int)) = true := by simp; omega
          have t36 : decide ((k : Int) < (lo : Int)) = false := by simp; omega
          have hk : k < ls.length := by have := HN.out; omega
          have hlk : lo ≤ k := by omega
          have hlk2 : ¬ k < lo := by omega
          have HS1 := Lib.hid (HS.out k hk)
          obtain ⟨L, hL⟩ : ∃ L, ls[k] = L := ⟨_, rfl⟩
          have HKL : Hid (∃ h : k < ls.length, ls[k]'h = L) := Lib.hid ⟨hk, hL⟩
          rw [hL] at HS1
          clear hL hk il
          go_wp2_with fail
          (with_reducible refine (HS1.out).mono ?_)
          rintro e w2 ⟨ao, n, c, rfl, HSP, rfl⟩
          have nm : n ≤ 9223372036854775807 := Nat.le_trans HSP.out.le HSP.out.top
          by_cases n0' : n = 0
          · have t30 : ((n : Int) == 0) = true := by simp; exact n0'
            have HJ2 : Hid (∀ j (h : j < ls.length), (k : Int) - 1 < (j : Int) → j ≤ m → ls[j] = []) := Lib.hid (fun j h a b => by
              by_cases q : j = k
              · subst q
                obtain ⟨h2, e⟩ := HKL.out
                rw [e]
                exact List.eq_nil_of_length_eq_zero (by rw [HSP.out.len]; exact n0')
              · exact HJ.out j h (by omega) b)
            clear n0'
            go_wp2
            go_round
            case rel => exact ⟨(k : Int) - 1, by omega, by omega, rfl, HJ2⟩
            case measure => simp [intOf]; omega
          · have t30 : ((n : Int) == 0) = false := by simp; exact n0'
            have HNL : Hid (L ≠ []) := Lib.hid (fun z => by have := HSP.out.len; rw [z] at this; simp at this; omega)
            clear n0'
            go_wp2_with fail
            (with_reducible refine (HS1.out).mono ?_)
            rintro e w2 ⟨ao2, n2, c2, rfl, HSP2, rfl⟩
            go_wp2_with fail
            (with_reducible refine (HE.out ao2 n2 c2 L HSP2.out HNL.out).mono ?_)
            rintro e w2 ⟨rfl, rfl⟩
            by_cases et : ed L < t
            · have t44 : decide (ed L < t) = true := by simp; exact et
              have HNX : Hid ((∀ j (h : j < ls.length), j < m + 1 → ls[j] ≠ [] → ed ls[j] < t) ∧ ∀ h : hi < ls.length, ls[hi] ≠ [] ∧ t ≤ ed ls[hi]) := Lib.hid ⟨fun j h q ne => by
                obtain ⟨hk, e⟩ := HKL.out
                rcases Nat.lt_or_ge k j with z | z
                · exact absurd (HJ.out j h (by omega) (by omega)) ne
                · have := HM.out j k h hk z ne (by rw [e]; exact HNL.out)
                  rw [e] at this
                  omega, HI.out.2⟩
              generalize ed L = x at t44
              clear et
              go_wp2
              go_round
              case rel => exact ⟨m + 1, hi, by omega, by omega, rfl, by go_num, rfl, HNX⟩
              case measure => simp [intOf]; omega
            · have t44 : decide (ed L < t) = false := by simp; omega
              have HNX : Hid ((∀ j (h : j < ls.length), j < lo → ls[j] ≠ [] → ed ls[j] < t) ∧ ∀ h : k < ls.length, ls[k] ≠ [] ∧ t ≤ ed ls[k]) := Lib.hid ⟨HI.out.1, fun h => by
                obtain ⟨hk, e⟩ := HKL.out
                rw [e]; exact ⟨HNL.out, by omega⟩⟩
              generalize ed L = x at t44
              clear et
              go_wp2
              go_round
              case rel => exact ⟨lo, k, by omega, by omega, rfl, rfl, rfl, HNX⟩
              case measure => simp [intOf]; omega
    · obtain rfl : lo = hi := by omega
      have HR : Hid (LeastIs ls ed t lo) := Lib.hid ⟨by rw [HN.out]; exact h2, HI.out.2, HI.out.1⟩
      go_wp2
      go_returns
      exact ⟨lo, rfl, HR, rfl⟩
set_option maxRecDepth 8000 in
set_option maxHeartbeats 2000000 in
theorem least_60_36 (n0 : Nat) (ls : List (List Sp)) (hn : ls.length = n0) (hn1 : n0 ≤ 1000000) (g : Nat) (ed : List Sp → Int) (t : Int) (w : World)
    (hset : ∀ i (h : i < ls.length), Calls Tryz.prog 59 #[.int .i64 (i : Int), .pointer (some ⟨g, 0, none⟩)] w fun e w' => ∃ ao n c, e = .returned (.slice ao n c) ∧ Hid (SpAt w ao n c ls[i]) ∧ w' = w)
    (hedge : ∀ ao n c l, SpAt w ao n c l → l ≠ [] → Calls Tryz.prog 36 #[.slice ao n c] w fun e w' => e = .returned (.int .i64 (ed l)) ∧ w' = w)
    (hmono : ∀ i j (hi : i < ls.length) (hj : j < ls.length), i ≤ j → ls[i] ≠ [] → ls[j] ≠ [] → ed ls[i] ≤ ed ls[j]) :
    Calls Tryz.prog 29 #[.int .i64 (n0 : Int), .func (.func 59) #[] #[.pointer (some ⟨g, 0, none⟩)], .func (.func 36) #[] #[], .int .i64 t] w fun e w' => ∃ r : Nat, e = .returned (.int .i64 (r : Int)) ∧ Hid (LeastIs ls ed t r) ∧ w' = w := by
  have HS := Lib.hid hset
  have HE := Lib.hid hedge
  have HM := Lib.hid hmono
  have HN := Lib.hid hn
  clear hset hedge hmono hn
  go_enter Tryz.func29, Tryz.ntmps29
  have H0 : Hid ((∀ j (h : j < ls.length), j < 0 → ls[j] ≠ [] → ed ls[j] < t) ∧ ∀ h : n0 < ls.length, ls[n0] ≠ [] ∧ t ≤ ed ls[n0]) := Lib.hid ⟨fun j _ z => by omega, fun h => by have := HN.out; omega⟩
  go_wp2_with fail
  go_loop [0, 9, 10] (fun a b c => ∃ lo hi : Nat, lo ≤ hi ∧ hi ≤ n0 ∧ a = .int .i64 (hi : Int) ∧ b = .int .i64 (lo : Int) ∧ c = .int .i64 (hi : Int) ∧ Hid ((∀ j (h : j < ls.length), j < lo → ls[j] ≠ [] → ed ls[j] < t) ∧ ∀ h : hi < ls.length, ls[hi] ≠ [] ∧ t ≤ ed ls[hi])) (fun a b c => (intOf c).toNat - (intOf b).toNat)
  case atStart => exact ⟨0, n0, Nat.zero_le _, Nat.le_refl _, rfl, rfl, rfl, H0⟩
  case round =>
    clear H0
    obtain ⟨lo, hi, h1, h2, rfl, rfl, rfl, HI⟩ := hrel
    by_cases hlt : lo < hi
    · have z0 : (lo : Int) < (hi : Int) := by omega
      obtain ⟨m, hm⟩ : ∃ m : Nat, ((lo : Int) + (hi : Int)).tdiv 2 = (m : Int) := ⟨(lo + hi) / 2, by rw [Int.tdiv_eq_ediv_of_nonneg (by omega)]; omega⟩
      have hm2 : ((lo : Int) + (hi : Int)) / 2 = (m : Int) := by rw [← hm, Int.tdiv_eq_ediv_of_nonneg (by omega)]
      have a1 : (0 : Int) ≤ (lo : Int) := by omega
      have a2 : (hi : Int) ≤ 1000000 := by omega
      have m1 : lo ≤ m := by omega
      have m2 : m < hi := by omega
      clear hm2
      go_upto_region 5 with fail
      have H1 : Hid (∀ j (h : j < ls.length), (m : Int) < (j : Int) → j ≤ m → ls[j] = []) := Lib.hid (fun j _ a b => by omega)
      go_loop [12] (fun a => ∃ i : Int, (lo : Int) - 1 ≤ i ∧ i ≤ (m : Int) ∧ a = .int .i64 i ∧ Hid (∀ j (h : j < ls.length), i < (j : Int) → j ≤ m → ls[j] = [])) (fun a => (intOf a - (lo : Int) + 1).toNat)
      case atStart => exact ⟨m, by omega, by omega, rfl, H1⟩
      case round =>
        clear H1
        obtain ⟨i, i1, i2, rfl, HJ⟩ := hrel
        by_cases il : i < (lo : Int)
        · have t24 : decide ((lo : Int) ≤ i) = false := by simp; omega
          have t36 : decide (i < (lo : Int)) = true := by simp; omega
          have HNX : Hid ((∀ j (h : j < ls.length), j < m + 1 → ls[j] ≠ [] → ed ls[j] < t) ∧ ∀ h : hi < ls.length, ls[hi] ≠ [] ∧ t ≤ ed ls[hi]) := Lib.hid ⟨fun j h q ne => by
            rcases Nat.lt_or_ge j lo with z | z
            · exact HI.out.1 j h z ne
            · exact absurd (HJ.out j h (by omega) (by omega)) ne, HI.out.2⟩
          go_wp2
          go_round
          case rel => exact ⟨m + 1, hi, by omega, by omega, rfl, by go_num, rfl, HNX⟩
          case measure => simp [intOf]; omega
        · obtain ⟨k, rfl⟩ : ∃ k : Nat, i = (k : Int) := ⟨i.toNat, by omega⟩
          have t24 : decide ((lo : Int) ≤ (k : Int)) = true := by simp; omega
          have t36 : decide ((k : Int) < (lo : Int)) = false := by simp; omega
          have hk : k < ls.length := by have := HN.out; omega
          have hlk : lo ≤ k := by omega
          have hlk2 : ¬ k < lo := by omega
          have HS1 := Lib.hid (HS.out k hk)
          obtain ⟨L, hL⟩ : ∃ L, ls[k] = L := ⟨_, rfl⟩
          have HKL : Hid (∃ h : k < ls.length, ls[k]'h = L) := Lib.hid ⟨hk, hL⟩
          rw [hL] at HS1
          clear hL hk il
          go_wp2_with fail
          (with_reducible refine (HS1.out).mono ?_)
          rintro e w2 ⟨ao, n, c, rfl, HSP, rfl⟩
          have nm : n ≤ 9223372036854775807 := Nat.le_trans HSP.out.le HSP.out.top
          by_cases n0' : n = 0
          · have t30 : ((n : Int) == 0) = true := by simp; exact n0'
            have HJ2 : Hid (∀ j (h : j < ls.length), (k : Int) - 1 < (j : Int) → j ≤ m → ls[j] = []) := Lib.hid (fun j h a b => by
              by_cases q : j = k
              · subst q
                obtain ⟨h2, e⟩ := HKL.out
                rw [e]
                exact List.eq_nil_of_length_eq_zero (by rw [HSP.out.len]; exact n0')
              · exact HJ.out j h (by omega) b)
            clear n0'
            go_wp2
            go_round
            case rel => exact ⟨(k : Int) - 1, by omega, by omega, rfl, HJ2⟩
            case measure => simp [intOf]; omega
          · have t30 : ((n : Int) == 0) = false := by simp; exact n0'
            have HNL : Hid (L ≠ []) := Lib.hid (fun z => by have := HSP.out.len; rw [z] at this; simp at this; omega)
            clear n0'
            go_wp2_with fail
            (with_reducible refine (HS1.out).mono ?_)
            rintro e w2 ⟨ao2, n2, c2, rfl, HSP2, rfl⟩
            go_wp2_with fail
            (with_reducible refine (HE.out ao2 n2 c2 L HSP2.out HNL.out).mono ?_)
            rintro e w2 ⟨rfl, rfl⟩
            by_cases et : ed L < t
            · have t44 : decide (ed L < t) = true := by simp; exact et
              have HNX : Hid ((∀ j (h : j < ls.length), j < m + 1 → ls[j] ≠ [] → ed ls[j] < t) ∧ ∀ h : hi < ls.length, ls[hi] ≠ [] ∧ t ≤ ed ls[hi]) := Lib.hid ⟨fun j h q ne => by
                obtain ⟨hk, e⟩ := HKL.out
                rcases Nat.lt_or_ge k j with z | z
                · exact absurd (HJ.out j h (by omega) (by omega)) ne
                · have := HM.out j k h hk z ne (by rw [e]; exact HNL.out)
                  rw [e] at this
                  omega, HI.out.2⟩
              generalize ed L = x at t44
              clear et
              go_wp2
              go_round
              case rel => exact ⟨m + 1, hi, by omega, by omega, rfl, by go_num, rfl, HNX⟩
              case measure => simp [intOf]; omega
            · have t44 : decide (ed L < t) = false := by simp; omega
              have HNX : Hid ((∀ j (h : j < ls.length), j < lo → ls[j] ≠ [] → ed ls[j] < t) ∧ ∀ h : k < ls.length, ls[k] ≠ [] ∧ t ≤ ed ls[k]) := Lib.hid ⟨HI.out.1, fun h => by
                obtain ⟨hk, e⟩ := HKL.out
                rw [e]; exact ⟨HNL.out, by omega⟩⟩
              generalize ed L = x at t44
              clear et
              go_wp2
              go_round
              case rel => exact ⟨lo, k, by omega, by omega, rfl, rfl, rfl, HNX⟩
              case measure => simp [intOf]; omega
    · obtain rfl : lo = hi := by omega
      have HR : Hid (LeastIs ls ed t lo) := Lib.hid ⟨by rw [HN.out]; exact h2, HI.out.2, HI.out.1⟩
      go_wp2
      go_returns
      exact ⟨lo, rfl, HR, rfl⟩
set_option maxRecDepth 8000 in
set_option maxHeartbeats 2000000 in
theorem least_84_32 (n0 : Nat) (ls : List (List Sp)) (hn : ls.length = n0) (hn1 : n0 ≤ 1000000) (g : Nat) (ed : List Sp → Int) (t : Int) (w : World)
    (hset : ∀ i (h : i < ls.length), Calls Tryz.prog 81 #[.int .i64 (i : Int), .pointer (some ⟨g, 0, none⟩)] w fun e w' => ∃ ao n c, e = .returned (.slice ao n c) ∧ Hid (SpAt w ao n c ls[i]) ∧ w' = w)
    (hedge : ∀ ao n c l, SpAt w ao n c l → l ≠ [] → Calls Tryz.prog 31 #[.slice ao n c] w fun e w' => e = .returned (.int .i64 (ed l)) ∧ w' = w)
    (hmono : ∀ i j (hi : i < ls.length) (hj : j < ls.length), i ≤ j → ls[i] ≠ [] → ls[j] ≠ [] → ed ls[i] ≤ ed ls[j]) :
    Calls Tryz.prog 29 #[.int .i64 (n0 : Int), .func (.func 81) #[] #[.pointer (some ⟨g, 0, none⟩)], .func (.func 31) #[] #[], .int .i64 t] w fun e w' => ∃ r : Nat, e = .returned (.int .i64 (r : Int)) ∧ Hid (LeastIs ls ed t r) ∧ w' = w := by
  have HS := Lib.hid hset
  have HE := Lib.hid hedge
  have HM := Lib.hid hmono
  have HN := Lib.hid hn
  clear hset hedge hmono hn
  go_enter Tryz.func29, Tryz.ntmps29
  have H0 : Hid ((∀ j (h : j < ls.length), j < 0 → ls[j] ≠ [] → ed ls[j] < t) ∧ ∀ h : n0 < ls.length, ls[n0] ≠ [] ∧ t ≤ ed ls[n0]) := Lib.hid ⟨fun j _ z => by omega, fun h => by have := HN.out; omega⟩
  go_wp2_with fail
  go_loop [0, 9, 10] (fun a b c => ∃ lo hi : Nat, lo ≤ hi ∧ hi ≤ n0 ∧ a = .int .i64 (hi : Int) ∧ b = .int .i64 (lo : Int) ∧ c = .int .i64 (hi : Int) ∧ Hid ((∀ j (h : j < ls.length), j < lo → ls[j] ≠ [] → ed ls[j] < t) ∧ ∀ h : hi < ls.length, ls[hi] ≠ [] ∧ t ≤ ed ls[hi])) (fun a b c => (intOf c).toNat - (intOf b).toNat)
  case atStart => exact ⟨0, n0, Nat.zero_le _, Nat.le_refl _, rfl, rfl, rfl, H0⟩
  case round =>
    clear H0
    obtain ⟨lo, hi, h1, h2, rfl, rfl, rfl, HI⟩ := hrel
    by_cases hlt : lo < hi
    · have z0 : (lo : Int) < (hi : Int) := by omega
      obtain ⟨m, hm⟩ : ∃ m : Nat, ((lo : Int) + (hi : Int)).tdiv 2 = (m : Int) := ⟨(lo + hi) / 2, by rw [Int.tdiv_eq_ediv_of_nonneg (by omega)]; omega⟩
      have hm2 : ((lo : Int) + (hi : Int)) / 2 = (m : Int) := by rw [← hm, Int.tdiv_eq_ediv_of_nonneg (by omega)]
      have a1 : (0 : Int) ≤ (lo : Int) := by omega
      have a2 : (hi : Int) ≤ 1000000 := by omega
      have m1 : lo ≤ m := by omega
      have m2 : m < hi := by omega
      clear hm2
      go_upto_region 5 with fail
      have H1 : Hid (∀ j (h : j < ls.length), (m : Int) < (j : Int) → j ≤ m → ls[j] = []) := Lib.hid (fun j _ a b => by omega)
      go_loop [12] (fun a => ∃ i : Int, (lo : Int) - 1 ≤ i ∧ i ≤ (m : Int) ∧ a = .int .i64 i ∧ Hid (∀ j (h : j < ls.length), i < (j : Int) → j ≤ m → ls[j] = [])) (fun a => (intOf a - (lo : Int) + 1).toNat)
      case atStart => exact ⟨m, by omega, by omega, rfl, H1⟩
      case round =>
        clear H1
        obtain ⟨i, i1, i2, rfl, HJ⟩ := hrel
        by_cases il : i < (lo : Int)
        · have t24 : decide ((lo : Int) ≤ i) = false := by simp; omega
          have t36 : decide (i < (lo : Int)) = true := by simp; omega
          have HNX : Hid ((∀ j (h : j < ls.length), j < m + 1 → ls[j] ≠ [] → ed ls[j] < t) ∧ ∀ h : hi < ls.length, ls[hi] ≠ [] ∧ t ≤ ed ls[hi]) := Lib.hid ⟨fun j h q ne => by
            rcases Nat.lt_or_ge j lo with z | z
            · exact HI.out.1 j h z ne
            · exact absurd (HJ.out j h (by omega) (by omega)) ne, HI.out.2⟩
          go_wp2
          go_round
          case rel => exact ⟨m + 1, hi, by omega, by omega, rfl, by go_num, rfl, HNX⟩
          case measure => simp [intOf]; omega
        · obtain ⟨k, rfl⟩ : ∃ k : Nat, i = (k : Int) := ⟨i.toNat, by omega⟩
          have t24 : decide ((lo : Int) ≤ (k : Int)) = true := by simp; omega
          have t36 : decide ((k : Int) < (lo : Int)) = false := by simp; omega
          have hk : k < ls.length := by have := HN.out; omega
          have hlk : lo ≤ k := by omega
          have hlk2 : ¬ k < lo := by omega
          have HS1 := Lib.hid (HS.out k hk)
          obtain ⟨L, hL⟩ : ∃ L, ls[k] = L := ⟨_, rfl⟩
          have HKL : Hid (∃ h : k < ls.length, ls[k]'h = L) := Lib.hid ⟨hk, hL⟩
          rw [hL] at HS1
          clear hL hk il
          go_wp2_with fail
          (with_reducible refine (HS1.out).mono ?_)
          rintro e w2 ⟨ao, n, c, rfl, HSP, rfl⟩
          have nm : n ≤ 9223372036854775807 := Nat.le_trans HSP.out.le HSP.out.top
          by_cases n0' : n = 0
          · have t30 : ((n : Int) == 0) = true := by simp; exact n0'
            have HJ2 : Hid (∀ j (h : j < ls.length), (k : Int) - 1 < (j : Int) → j ≤ m → ls[j] = []) := Lib.hid (fun j h a b => by
              by_cases q : j = k
              · subst q
                obtain ⟨h2, e⟩ := HKL.out
                rw [e]
                exact List.eq_nil_of_length_eq_zero (by rw [HSP.out.len]; exact n0')
              · exact HJ.out j h (by omega) b)
            clear n0'
            go_wp2
            go_round
            case rel => exact ⟨(k : Int) - 1, by omega, by omega, rfl, HJ2⟩
            case measure => simp [intOf]; omega
          · have t30 : ((n : Int) == 0) = false := by simp; exact n0'
            have HNL : Hid (L ≠ []) := Lib.hid (fun z => by have := HSP.out.len; rw [z] at this; simp at this; omega)
            clear n0'
            go_wp2_with fail
            (with_reducible refine (HS1.out).mono ?_)
            rintro e w2 ⟨ao2, n2, c2, rfl, HSP2, rfl⟩
            go_wp2_with fail
            (with_reducible refine (HE.out ao2 n2 c2 L HSP2.out HNL.out).mono ?_)
            rintro e w2 ⟨rfl, rfl⟩
            by_cases et : ed L < t
            · have t44 : decide (ed L < t) = true := by simp; exact et
              have HNX : Hid ((∀ j (h : j < ls.length), j < m + 1 → ls[j] ≠ [] → ed ls[j] < t) ∧ ∀ h : hi < ls.length, ls[hi] ≠ [] ∧ t ≤ ed ls[hi]) := Lib.hid ⟨fun j h q ne => by
                obtain ⟨hk, e⟩ := HKL.out
                rcases Nat.lt_or_ge k j with z | z
                · exact absurd (HJ.out j h (by omega) (by omega)) ne
                · have := HM.out j k h hk z ne (by rw [e]; exact HNL.out)
                  rw [e] at this
                  omega, HI.out.2⟩
              generalize ed L = x at t44
              clear et
              go_wp2
              go_round
              case rel => exact ⟨m + 1, hi, by omega, by omega, rfl, by go_num, rfl, HNX⟩
              case measure => simp [intOf]; omega
            · have t44 : decide (ed L < t) = false := by simp; omega
              have HNX : Hid ((∀ j (h : j < ls.length), j < lo → ls[j] ≠ [] → ed ls[j] < t) ∧ ∀ h : k < ls.length, ls[k] ≠ [] ∧ t ≤ ed ls[k]) := Lib.hid ⟨HI.out.1, fun h => by
                obtain ⟨hk, e⟩ := HKL.out
                rw [e]; exact ⟨HNL.out, by omega⟩⟩
              generalize ed L = x at t44
              clear et
              go_wp2
              go_round
              case rel => exact ⟨lo, k, by omega, by omega, rfl, rfl, rfl, HNX⟩
              case measure => simp [intOf]; omega
    · obtain rfl : lo = hi := by omega
      have HR : Hid (LeastIs ls ed t lo) := Lib.hid ⟨by rw [HN.out]; exact h2, HI.out.2, HI.out.1⟩
      go_wp2
      go_returns
      exact ⟨lo, rfl, HR, rfl⟩
set_option maxRecDepth 8000 in
set_option maxHeartbeats 2000000 in
theorem least_84_36 (n0 : Nat) (ls : List (List Sp)) (hn : ls.length = n0) (hn1 : n0 ≤ 1000000) (g : Nat) (ed : List Sp → Int) (t : Int) (w : World)
    (hset : ∀ i (h : i < ls.length), Calls Tryz.prog 81 #[.int .i64 (i : Int), .pointer (some ⟨g, 0, none⟩)] w fun e w' => ∃ ao n c, e = .returned (.slice ao n c) ∧ Hid (SpAt w ao n c ls[i]) ∧ w' = w)
    (hedge : ∀ ao n c l, SpAt w ao n c l → l ≠ [] → Calls Tryz.prog 36 #[.slice ao n c] w fun e w' => e = .returned (.int .i64 (ed l)) ∧ w' = w)
    (hmono : ∀ i j (hi : i < ls.length) (hj : j < ls.length), i ≤ j → ls[i] ≠ [] → ls[j] ≠ [] → ed ls[i] ≤ ed ls[j]) :
    Calls Tryz.prog 29 #[.int .i64 (n0 : Int), .func (.func 81) #[] #[.pointer (some ⟨g, 0, none⟩)], .func (.func 36) #[] #[], .int .i64 t] w fun e w' => ∃ r : Nat, e = .returned (.int .i64 (r : Int)) ∧ Hid (LeastIs ls ed t r) ∧ w' = w := by
  have HS := Lib.hid hset
  have HE := Lib.hid hedge
  have HM := Lib.hid hmono
  have HN := Lib.hid hn
  clear hset hedge hmono hn
  go_enter Tryz.func29, Tryz.ntmps29
  have H0 : Hid ((∀ j (h : j < ls.length), j < 0 → ls[j] ≠ [] → ed ls[j] < t) ∧ ∀ h : n0 < ls.length, ls[n0] ≠ [] ∧ t ≤ ed ls[n0]) := Lib.hid ⟨fun j _ z => by omega, fun h => by have := HN.out; omega⟩
  go_wp2_with fail
  go_loop [0, 9, 10] (fun a b c => ∃ lo hi : Nat, lo ≤ hi ∧ hi ≤ n0 ∧ a = .int .i64 (hi : Int) ∧ b = .int .i64 (lo : Int) ∧ c = .int .i64 (hi : Int) ∧ Hid ((∀ j (h : j < ls.length), j < lo → ls[j] ≠ [] → ed ls[j] < t) ∧ ∀ h : hi < ls.length, ls[hi] ≠ [] ∧ t ≤ ed ls[hi])) (fun a b c => (intOf c).toNat - (intOf b).toNat)
  case atStart => exact ⟨0, n0, Nat.zero_le _, Nat.le_refl _, rfl, rfl, rfl, H0⟩
  case round =>
    clear H0
    obtain ⟨lo, hi, h1, h2, rfl, rfl, rfl, HI⟩ := hrel
    by_cases hlt : lo < hi
    · have z0 : (lo : Int) < (hi : Int) := by omega
      obtain ⟨m, hm⟩ : ∃ m : Nat, ((lo : Int) + (hi : Int)).tdiv 2 = (m : Int) := ⟨(lo + hi) / 2, by rw [Int.tdiv_eq_ediv_of_nonneg (by omega)]; omega⟩
      have hm2 : ((lo : Int) + (hi : Int)) / 2 = (m : Int) := by rw [← hm, Int.tdiv_eq_ediv_of_nonneg (by omega)]
      have a1 : (0 : Int) ≤ (lo : Int) := by omega
      have a2 : (hi : Int) ≤ 1000000 := by omega
      have m1 : lo ≤ m := by omega
      have m2 : m < hi := by omega
      clear hm2
      go_upto_region 5 with fail
      have H1 : Hid (∀ j (h : j < ls.length), (m : Int) < (j : Int) → j ≤ m → ls[j] = []) := Lib.hid (fun j _ a b => by omega)
      go_loop [12] (fun a => ∃ i : Int, (lo : Int) - 1 ≤ i ∧ i ≤ (m : Int) ∧ a = .int .i64 i ∧ Hid (∀ j (h : j < ls.length), i < (j : Int) → j ≤ m → ls[j] = [])) (fun a => (intOf a - (lo : Int) + 1).toNat)
      case atStart => exact ⟨m, by omega, by omega, rfl, H1⟩
      case round =>
        clear H1
        obtain ⟨i, i1, i2, rfl, HJ⟩ := hrel
        by_cases il : i < (lo : Int)
        · have t24 : decide ((lo : Int) ≤ i) = false := by simp; omega
          have t36 : decide (i < (lo : Int)) = true := by simp; omega
          have HNX : Hid ((∀ j (h : j < ls.length), j < m + 1 → ls[j] ≠ [] → ed ls[j] < t) ∧ ∀ h : hi < ls.length, ls[hi] ≠ [] ∧ t ≤ ed ls[hi]) := Lib.hid ⟨fun j h q ne => by
            rcases Nat.lt_or_ge j lo with z | z
            · exact HI.out.1 j h z ne
            · exact absurd (HJ.out j h (by omega) (by omega)) ne, HI.out.2⟩
          go_wp2
          go_round
          case rel => exact ⟨m + 1, hi, by omega, by omega, rfl, by go_num, rfl, HNX⟩
          case measure => simp [intOf]; omega
        · obtain ⟨k, rfl⟩ : ∃ k : Nat, i = (k : Int) := ⟨i.toNat, by omega⟩
          have t24 : decide ((lo : Int) ≤ (k : Int)) = true := by simp; omega
          have t36 : decide ((k : Int) < (lo : Int)) = false := by simp; omega
          have hk : k < ls.length := by have := HN.out; omega
          have hlk : lo ≤ k := by omega
          have hlk2 : ¬ k < lo := by omega
          have HS1 := Lib.hid (HS.out k hk)
          obtain ⟨L, hL⟩ : ∃ L, ls[k] = L := ⟨_, rfl⟩
          have HKL : Hid (∃ h : k < ls.length, ls[k]'h = L) := Lib.hid ⟨hk, hL⟩
          rw [hL] at HS1
          clear hL hk il
          go_wp2_with fail
          (with_reducible refine (HS1.out).mono ?_)
          rintro e w2 ⟨ao, n, c, rfl, HSP, rfl⟩
          have nm : n ≤ 9223372036854775807 := Nat.le_trans HSP.out.le HSP.out.top
          by_cases n0' : n = 0
          · have t30 : ((n : Int) == 0) = true := by simp; exact n0'
            have HJ2 : Hid (∀ j (h : j < ls.length), (k : Int) - 1 < (j : Int) → j ≤ m → ls[j] = []) := Lib.hid (fun j h a b => by
              by_cases q : j = k
              · subst q
                obtain ⟨h2, e⟩ := HKL.out
                rw [e]
                exact List.eq_nil_of_length_eq_zero (by rw [HSP.out.len]; exact n0')
              · exact HJ.out j h (by omega) b)
            clear n0'
            go_wp2
            go_round
            case rel => exact ⟨(k : Int) - 1, by omega, by omega, rfl, HJ2⟩
            case measure => simp [intOf]; omega
          · have t30 : ((n : Int) == 0) = false := by simp; exact n0'
            have HNL : Hid (L ≠ []) := Lib.hid (fun z => by have := HSP.out.len; rw [z] at this; simp at this; omega)
            clear n0'
            go_wp2_with fail
            (with_reducible refine (HS1.out).mono ?_)
            rintro e w2 ⟨ao2, n2, c2, rfl, HSP2, rfl⟩
            go_wp2_with fail
            (with_reducible refine (HE.out ao2 n2 c2 L HSP2.out HNL.out).mono ?_)
            rintro e w2 ⟨rfl, rfl⟩
            by_cases et : ed L < t
            · have t44 : decide (ed L < t) = true := by simp; exact et
              have HNX : Hid ((∀ j (h : j < ls.length), j < m + 1 → ls[j] ≠ [] → ed ls[j] < t) ∧ ∀ h : hi < ls.length, ls[hi] ≠ [] ∧ t ≤ ed ls[hi]) := Lib.hid ⟨fun j h q ne => by
                obtain ⟨hk, e⟩ := HKL.out
                rcases Nat.lt_or_ge k j with z | z
                · exact absurd (HJ.out j h (by omega) (by omega)) ne
                · have := HM.out j k h hk z ne (by rw [e]; exact HNL.out)
                  rw [e] at this
                  omega, HI.out.2⟩
              generalize ed L = x at t44
              clear et
              go_wp2
              go_round
              case rel => exact ⟨m + 1, hi, by omega, by omega, rfl, by go_num, rfl, HNX⟩
              case measure => simp [intOf]; omega
            · have t44 : decide (ed L < t) = false := by simp; omega
              have HNX : Hid ((∀ j (h : j < ls.length), j < lo → ls[j] ≠ [] → ed ls[j] < t) ∧ ∀ h : k < ls.length, ls[k] ≠ [] ∧ t ≤ ed ls[k]) := Lib.hid ⟨HI.out.1, fun h => by
                obtain ⟨hk, e⟩ := HKL.out
                rw [e]; exact ⟨HNL.out, by omega⟩⟩
              generalize ed L = x at t44
              clear et
              go_wp2
              go_round
              case rel => exact ⟨lo, k, by omega, by omega, rfl, rfl, rfl, HNX⟩
              case measure => simp [intOf]; omega
    · obtain rfl : lo = hi := by omega
      have HR : Hid (LeastIs ls ed t lo) := Lib.hid ⟨by rw [HN.out]; exact h2, HI.out.2, HI.out.1⟩
      go_wp2
      go_returns
      exact ⟨lo, rfl, HR, rfl⟩
def CoreOut (F : Fv) (ed : List Sp → Int) (t : Int) (e : Ending) : Prop := ∃ (i : Int) (ok : Bool), e = .returned (.tuple #[.int .i64 i, .bool ok]) ∧ (ok = true → CoreIs F.cs F.P F.N ed t i) ∧ (ok = false → i = 0 ∧ ∀ k, cg F.cs F.P F.N k = [])
set_option maxRecDepth 8000 in
set_option maxHeartbeats 2000000 in
theorem inCore_32 (F : Fv) (t : Int) (w : World) (hF : F.At w) (hm : F.Meas) (hg : ∀ l ∈ F.cs, Good l) (ho : F.cs.Pairwise Ahd) (hc : F.cn ≤ 10000) (t1 : -2199023255552 ≤ t) (t2 : t ≤ 2199023255552) :
    Calls Tryz.prog 60 #[F.v, .func (.func 31) #[] #[], .int .i64 t] w fun e w' => CoreOut F hullB t e ∧ Hid (Below w.heap.size w w') := by
  have HG := Lib.hid hg
  have HO := Lib.hid ho
  clear hg ho
  obtain ⟨P, N, co, cn, cc, oo, on, oc, cs, os⟩ := F
  have LC : Hid (cs.length = cn) := Lib.hid hF.core.len
  have hmc : cn ≤ 9223372036854775807 := Nat.le_trans hF.core.le hF.core.top
  have hc : cn ≤ 10000 := hc
  have hm : (N = 0 ∧ P = 0 ∧ cn = 0) ∨ (N ≠ 0 ∧ N = cn ∧ 1 ≤ P ∧ P ≤ 1099511627776) := hm
  have HF := Lib.hid hF
  obtain ⟨b, hb⟩ : ∃ b, w.heap.size = b := ⟨_, rfl⟩
  obtain ⟨wb, hwb⟩ : ∃ wb, w.alloc (.cells #[.int .i64 P, .int .i64 N, .slice co cn cc, .slice oo on oc] 25) = wb := ⟨_, rfl⟩
  have HBB : Hid (Fbox ⟨P, N, co, cn, cc, oo, on, oc, cs, os⟩ w wb b) := Lib.hid (by rw [← hwb, ← hb]; exact fbox_new hF)
  clear hF
  show Calls Tryz.prog 60 #[.agg #[.int .i64 P, .int .i64 N, .slice co cn cc, .slice oo on oc], .func (.func 31) #[] #[], .int .i64 t] w _
  go_enter Tryz.func60, Tryz.ntmps60
  go_upto_region 1 with fail
  clear hwb hb
  have e0 : wb.cell? ⟨b, 0, none⟩ = some (.int .i64 P) := HBB.out.c0
  have e1 : wb.cell? ⟨b, 1, none⟩ = some (.int .i64 N) := HBB.out.c1
  have e2 : wb.cell? ⟨b, 2, none⟩ = some (.slice co cn cc) := HBB.out.c2
  rcases hm with ⟨rfl, rfl, h3⟩ | ⟨hn0, hN, p1, p2⟩
  · have h3' : (cn : Int) = 0 := by omega
    have t18 : ((0 : Int) != (cn : Int)) = false := by simp; omega
    have t22 : decide ((0 : Int) ≤ 0) = true := by decide
    have HZ : Hid (∀ k, cg cs 0 0 k = []) := Lib.hid (fun k => cg_out (fun f => by have := f.1; omega))
    clear h3'
    go_wp2
    go_returns
    exact ⟨⟨0, false, rfl, (fun z => by cases z), fun _ => ⟨rfl, HZ.out⟩⟩, Lib.hid HBB.out.bw⟩
  · subst hN
    have hnp : 1 ≤ cn := by omega
    have t18 : ((cn : Int) != (cn : Int)) = false := by simp
    have t22 : decide (P ≤ 0) = false := by simp; omega
    have HFU : Hid (Full cs (cn : Int)) := Lib.hid ⟨by omega, by rw [LC.out]⟩
    clear hn0
    have H0 : Hid (∀ j (h : j < cs.length), (cn : Int) - 1 < (j : Int) → cs[j] = []) := Lib.hid (fun j h a => by have := LC.out; omega)
    go_wp2_with fail
    go_loop [8] (fun a => ∃ i : Int, -1 ≤ i ∧ i ≤ (cn : Int) - 1 ∧ a = .int .i64 i ∧ Hid (∀ j (h : j < cs.length), i < (j : Int) → cs[j] = [])) (fun a => (intOf a + 1).toNat)
    case atStart => exact ⟨(cn : Int) - 1, by omega, by omega, rfl, H0⟩
    case round =>
      clear H0
      obtain ⟨i, i1, i2, rfl, HI⟩ := hrel
      by_cases il : i < 0
      · have t28 : decide (0 ≤ i) = false := by simp; omega
        have t41 : decide (i < 0) = true := by simp; omega
        have HZ : Hid (∀ k, cg cs P (cn : Int) k = []) := Lib.hid (fun k => cg_bare (fun l hl => by
          obtain ⟨j, hj, rfl⟩ := List.getElem_of_mem hl
          exact HI.out j hj (by omega)) k)
        go_wp2
        go_returns
        exact ⟨⟨0, false, rfl, (fun z => by cases z), fun _ => ⟨rfl, HZ.out⟩⟩, Lib.hid HBB.out.bw⟩
      · obtain ⟨k, rfl⟩ : ∃ k : Nat, i = (k : Int) := ⟨i.toNat, by omega⟩
        have hk : k < cs.length := by have := LC.out; omega
        have klt : k < cn := by omega
        have k0 : (0 : Int) ≤ (k : Int) := by omega
        have k1 : (k : Int) < (cn : Int) := by omega
        have t28 : decide ((0 : Int) ≤ (k : Int)) = true := by simp
        have t41 : decide ((k : Int) < 0) = false := by simp
        obtain ⟨g, p, rfl, hcell⟩ := (show CoAt wb co cn cc cs from HBB.out.at_.core).here (by omega)
        obtain ⟨o, m, d, c1, c2⟩ := hcell k hk
        have hmm : m ≤ 9223372036854775807 := Nat.le_trans c2.le c2.top
        have HSP := Lib.hid c2
        have HML := Lib.hid c2.len
        clear hcell c2
        by_cases hm0 : m = 0
        · have t36 : ((m : Int) == 0) = true := by simp; exact hm0
          have HI2 : Hid (∀ j (h : j < cs.length), (k : Int) - 1 < (j : Int) → cs[j] = []) := Lib.hid (fun j h a => by
            by_cases q : j = k
            · subst q; exact List.eq_nil_of_length_eq_zero (by rw [HML.out]; exact hm0)
            · exact HI.out j h (by omega))
          clear hm0
          go_wp2
          go_round
          case rel => exact ⟨(k : Int) - 1, by omega, by omega, rfl, HI2⟩
          case measure => first | (simp [intOf]; done) | (simp [intOf]; omega)
        · have t36 : ((m : Int) == 0) = false := by simp; exact hm0
          have hne : cs[k] ≠ [] := fun z => by have := HML.out; rw [z] at this; simp at this; omega
          have hrng := edgeB.rng _ (HG.out _ (List.getElem_mem hk)) hne
          have HED := Lib.hid (fun W (h : SpAt W o m d cs[k]) => last_any o m d cs[k] W h hne)
          have HCL := Lib.hid (fun turn (q1 : t - hullB cs[k] ≤ P * turn) (q2 : P * (turn - 1) < t - hullB cs[k]) a (ha : LeastIs cs hullB (t - P * turn) a) => core_least edgeB HFU.out (by omega) HG.out HO.out p1 p2 t1 t2 hk hne (fun j h z => HI.out j h (by omega)) q1 q2 ha.le ha.here (fun j h z ne => ha.low j h z ne))
          obtain ⟨L, hL⟩ : ∃ L, cs[k] = L := ⟨_, rfl⟩
          rw [hL] at hrng HED HCL HSP
          obtain ⟨x, hx⟩ : ∃ x, hullB L = x := ⟨_, rfl⟩
          rw [hx] at hrng HED HCL
          obtain ⟨r1, r2⟩ := hrng
          clear hL hx hne hm0 HML HI
          have hP0 : P ≠ 0 := by omega
          have hP1 : ¬ (t - x = -9223372036854775808 ∧ P = -1) := by omega
          have HFL := Lib.hid (fun W => floor_ok (t - x) P W (by omega) (by omega) (by omega) (by omega) hP0 hP1)
          have HMO := Lib.hid (fmod_nat (t - x) (N := P) (by omega))
          have HEQ := Lib.hid (fmod_eq (t - x) P)
          obtain ⟨q, hq⟩ : ∃ q, (t - x).fdiv P = q := ⟨_, rfl⟩
          obtain ⟨r, hr⟩ : ∃ q, (t - x).fmod P = q := ⟨_, rfl⟩
          rw [hq, hr] at HFL HEQ
          rw [hr] at HMO
          clear hq hr
          go_upto_region 8 with fail
          have HE1 := Lib.hid (fun W (h : Below wb.heap.size wb W) => HED.out W (HSP.out.keep h))
          clear HED HSP
          go_quiet ((first | (go_at_call 31; with_reducible exact Calls.quiet_of_same (HE1.out _ (below_drewN (Below.refl _ _) _))) | (go_at_call 80; with_reducible exact Calls.quiet_of (HFL.out _)) | fail))
          have HQW : Hid (Below wb.heap.size wb (wb.drewN nq)) := Lib.hid (below_drewN (Below.refl _ _) _)
          generalize wb.drewN nq = wq at HQW
          have HBB := Lib.hid (HBB.out.keep HQW.out)
          have HSE := Lib.hid (fun i (hi : i < cs.length) => coreSet_any (some ⟨g, p, none⟩) cn cc cs b i wq HBB.out.c2 HBB.out.at_.core hi)
          have HED2 := Lib.hid (fun ao n c l (h : SpAt wq ao n c l) (ne : l ≠ []) => last_any ao n c l wq h ne)
          have HLS := Lib.hid (fun y => least_84_32 cn cs LC.out (by omega) b hullB (t - y) wq HSE.out HED2.out (fun i j hi hj q ni nj => pair_edge edgeB HG.out HO.out hi hj q ni nj))
          have e0 : wq.cell? ⟨b, 0, none⟩ = some (.int .i64 P) := HBB.out.c0
          have e1 : wq.cell? ⟨b, 1, none⟩ = some (.int .i64 (cn : Int)) := HBB.out.c1
          have e2 : wq.cell? ⟨b, 2, none⟩ = some (.slice (some ⟨g, p, none⟩) cn cc) := HBB.out.c2
          obtain ⟨v1, v2⟩ := HMO.out
          have hqb : -8796093022208 ≤ q ∧ q ≤ 8796093022208 := by
            have he := HEQ.out
            constructor
            · rcases Int.lt_or_le q 0 with z | z
              · have : P * q ≤ 1 * q := by
                  have := Int.mul_le_mul_of_nonneg_right (c := -q) p1 (by omega)
                  rw [Int.mul_neg, Int.mul_neg] at this; omega
                omega
              · omega
            · rcases Int.lt_or_le 0 q with z | z
              · have := Int.mul_le_mul_of_nonneg_right (c := q) p1 (by omega)
                omega
              · omega
          obtain ⟨qb1, qb2⟩ := hqb
          clear HSE HED2 HE1 HFL HMO HQW c1
          by_cases rp : 0 < r
          · have t59 : decide (0 < r) = true := by simp; exact rp
            have q1 : t - x ≤ P * (q + 1) := by rw [Int.mul_add, Int.mul_one]; have := HEQ.out; omega
            have q2 : P * (q + 1 - 1) < t - x := by rw [show q + 1 - 1 = q by omega]; have := HEQ.out; omega
            obtain ⟨turn, hturn⟩ : ∃ y, q + 1 = y := ⟨_, rfl⟩
            rw [hturn] at q1 q2
            have tb1 : -8796093022209 ≤ turn := by omega
            have tb2 : turn ≤ 8796093022209 := by omega
            have HQ := Lib.hid (HCL.out turn q1 q2)
            have pt : P * (turn - 1) = P * turn - P := by rw [Int.mul_sub, Int.mul_one]
            have hyb : -8796093022208 ≤ turn * P ∧ turn * P ≤ 8796093022208 := by rw [Int.mul_comm turn P]; omega
            have hzb : -92233720368547758 ≤ turn * (cn : Int) ∧ turn * (cn : Int) ≤ 92233720368547758 := by
              constructor
              · have : (-8796093022209) * (cn : Int) ≤ turn * (cn : Int) := Int.mul_le_mul_of_nonneg_right tb1 (by omega)
                omega
              · have : turn * (cn : Int) ≤ 8796093022209 * (cn : Int) := Int.mul_le_mul_of_nonneg_right tb2 (by omega)
                omega
            obtain ⟨y, hy⟩ : ∃ y, turn * P = y := ⟨_, rfl⟩
            obtain ⟨z, hz⟩ : ∃ z, turn * (cn : Int) = z := ⟨_, rfl⟩
            rw [hy] at hyb
            rw [hz] at hzb HQ
            rw [show P * turn = y by rw [← hy, Int.mul_comm]] at HQ
            have HLY := Lib.hid (HLS.out y)
            obtain ⟨y1, y2⟩ := hyb
            obtain ⟨z1, z2⟩ := hzb
            clear q1 q2 pt HLS HCL HEQ
            go_wp2_with fail
            (with_reducible refine (HLY.out).mono ?_)
            rintro e w3 ⟨a, rfl, HLE, rfl⟩
            obtain ⟨al, hci⟩ := HQ.out a HLE.out
            have al2 : a < cn := by rw [← LC.out]; exact al
            have HCI := Lib.hid hci
            have t82 : decide ((a : Int) < (cn : Int)) = true := by simp; exact al2
            clear hci al HQ
            go_upto_region 12 with fail
            go_region
            go_wp2
            go_returns
            exact ⟨⟨z + a, true, rfl, (fun _ => HCI.out), fun q => by cases q⟩, Lib.hid (HBB.out.bw.trans (Below.refl _ _).drew)⟩
          · have t59 : decide (0 < r) = false := by simp; omega
            have r0 : r = 0 := by omega
            have q1 : t - x ≤ P * q := by have := HEQ.out; omega
            have q2 : P * (q - 1) < t - x := by rw [Int.mul_sub, Int.mul_one]; have := HEQ.out; omega
            obtain ⟨turn, hturn⟩ : ∃ y, q = y := ⟨_, rfl⟩
            rw [hturn] at q1 q2
            have tb1 : -8796093022209 ≤ turn := by omega
            have tb2 : turn ≤ 8796093022209 := by omega
            have HQ := Lib.hid (HCL.out turn q1 q2)
            have pt : P * (turn - 1) = P * turn - P := by rw [Int.mul_sub, Int.mul_one]
            have hyb : -8796093022208 ≤ turn * P ∧ turn * P ≤ 8796093022208 := by rw [Int.mul_comm turn P]; omega
            have hzb : -92233720368547758 ≤ turn * (cn : Int) ∧ turn * (cn : Int) ≤ 92233720368547758 := by
              constructor
              · have : (-8796093022209) * (cn : Int) ≤ turn * (cn : Int) := Int.mul_le_mul_of_nonneg_right tb1 (by omega)
                omega
              · have : turn * (cn : Int) ≤ 8796093022209 * (cn : Int) := Int.mul_le_mul_of_nonneg_right tb2 (by omega)
                omega
            obtain ⟨y, hy⟩ : ∃ y, turn * P = y := ⟨_, rfl⟩
            obtain ⟨z, hz⟩ : ∃ z, turn * (cn : Int) = z := ⟨_, rfl⟩
            rw [hy] at hyb
            rw [hz] at hzb HQ
            rw [show P * turn = y by rw [← hy, Int.mul_comm]] at HQ
            have HLY := Lib.hid (HLS.out y)
            obtain ⟨y1, y2⟩ := hyb
            obtain ⟨z1, z2⟩ := hzb
            clear q1 q2 pt HLS HCL HEQ
            go_wp2_with fail
            (with_reducible refine (HLY.out).mono ?_)
            rintro e w3 ⟨a, rfl, HLE, rfl⟩
            obtain ⟨al, hci⟩ := HQ.out a HLE.out
            have al2 : a < cn := by rw [← LC.out]; exact al
            have HCI := Lib.hid hci
            have t82 : decide ((a : Int) < (cn : Int)) = true := by simp; exact al2
            clear hci al HQ
            go_upto_region 12 with fail
            go_region
            go_wp2
            go_returns
            exact ⟨⟨z + a, true, rfl, (fun _ => HCI.out), fun q => by cases q⟩, Lib.hid (HBB.out.bw.trans (Below.refl _ _).drew)⟩
set_option maxRecDepth 8000 in
set_option maxHeartbeats 2000000 in
theorem inCore_36 (F : Fv) (t : Int) (w : World) (hF : F.At w) (hm : F.Meas) (hg : ∀ l ∈ F.cs, Good l) (ho : F.cs.Pairwise Ahd) (hc : F.cn ≤ 10000) (t1 : -2199023255552 ≤ t) (t2 : t ≤ 2199023255552) :
    Calls Tryz.prog 60 #[F.v, .func (.func 36) #[] #[], .int .i64 t] w fun e w' => CoreOut F hullA t e ∧ Hid (Below w.heap.size w w') := by
  have HG := Lib.hid hg
  have HO := Lib.hid ho
  clear hg ho
  obtain ⟨P, N, co, cn, cc, oo, on, oc, cs, os⟩ := F
  have LC : Hid (cs.length = cn) := Lib.hid hF.core.len
  have hmc : cn ≤ 9223372036854775807 := Nat.le_trans hF.core.le hF.core.top
  have hc : cn ≤ 10000 := hc
  have hm : (N = 0 ∧ P = 0 ∧ cn = 0) ∨ (N ≠ 0 ∧ N = cn ∧ 1 ≤ P ∧ P ≤ 1099511627776) := hm
  have HF := Lib.hid hF
  obtain ⟨b, hb⟩ : ∃ b, w.heap.size = b := ⟨_, rfl⟩
  obtain ⟨wb, hwb⟩ : ∃ wb, w.alloc (.cells #[.int .i64 P, .int .i64 N, .slice co cn cc, .slice oo on oc] 25) = wb := ⟨_, rfl⟩
  have HBB : Hid (Fbox ⟨P, N, co, cn, cc, oo, on, oc, cs, os⟩ w wb b) := Lib.hid (by rw [← hwb, ← hb]; exact fbox_new hF)
  clear hF
  show Calls Tryz.prog 60 #[.agg #[.int .i64 P, .int .i64 N, .slice co cn cc, .slice oo on oc], .func (.func 36) #[] #[], .int .i64 t] w _
  go_enter Tryz.func60, Tryz.ntmps60
  go_upto_region 1 with fail
  clear hwb hb
  have e0 : wb.cell? ⟨b, 0, none⟩ = some (.int .i64 P) := HBB.out.c0
  have e1 : wb.cell? ⟨b, 1, none⟩ = some (.int .i64 N) := HBB.out.c1
  have e2 : wb.cell? ⟨b, 2, none⟩ = some (.slice co cn cc) := HBB.out.c2
  rcases hm with ⟨rfl, rfl, h3⟩ | ⟨hn0, hN, p1, p2⟩
  · have h3' : (cn : Int) = 0 := by omega
    have t18 : ((0 : Int) != (cn : Int)) = false := by simp; omega
    have t22 : decide ((0 : Int) ≤ 0) = true := by decide
    have HZ : Hid (∀ k, cg cs 0 0 k = []) := Lib.hid (fun k => cg_out (fun f => by have := f.1; omega))
    clear h3'
    go_wp2
    go_returns
    exact ⟨⟨0, false, rfl, (fun z => by cases z), fun _ => ⟨rfl, HZ.out⟩⟩, Lib.hid HBB.out.bw⟩
  · subst hN
    have hnp : 1 ≤ cn := by omega
    have t18 : ((cn : Int) != (cn : Int)) = false := by simp
    have t22 : decide (P ≤ 0) = false := by simp; omega
    have HFU : Hid (Full cs (cn : Int)) := Lib.hid ⟨by omega, by rw [LC.out]⟩
    clear hn0
    have H0 : Hid (∀ j (h : j < cs.length), (cn : Int) - 1 < (j : Int) → cs[j] = []) := Lib.hid (fun j h a => by have := LC.out; omega)
    go_wp2_with fail
    go_loop [8] (fun a => ∃ i : Int, -1 ≤ i ∧ i ≤ (cn : Int) - 1 ∧ a = .int .i64 i ∧ Hid (∀ j (h : j < cs.length), i < (j : Int) → cs[j] = [])) (fun a => (intOf a + 1).toNat)
    case atStart => exact ⟨(cn : Int) - 1, by omega, by omega, rfl, H0⟩
    case round =>
      clear H0
      obtain ⟨i, i1, i2, rfl, HI⟩ := hrel
      by_cases il : i < 0
      · have t28 : decide (0 ≤ i) = false := by simp; omega
        have t41 : decide (i < 0) = true := by simp; omega
        have HZ : Hid (∀ k, cg cs P (cn : Int) k = []) := Lib.hid (fun k => cg_bare (fun l hl => by
          obtain ⟨j, hj, rfl⟩ := List.getElem_of_mem hl
          exact HI.out j hj (by omega)) k)
        go_wp2
        go_returns
        exact ⟨⟨0, false, rfl, (fun z => by cases z), fun _ => ⟨rfl, HZ.out⟩⟩, Lib.hid HBB.out.bw⟩
      · obtain ⟨k, rfl⟩ : ∃ k : Nat, i = (k : Int) := ⟨i.toNat, by omega⟩
        have hk : k < cs.length := by have := LC.out; omega
        have klt : k < cn := by omega
        have k0 : (0 : Int) ≤ (k : Int) := by omega
        have k1 : (k : Int) < (cn : Int) := by omega
        have t28 : decide ((0 : Int) ≤ (k : Int)) = true := by simp
        have t41 : decide ((k : Int) < 0) = false := by simp
        obtain ⟨g, p, rfl, hcell⟩ := (show CoAt wb co cn cc cs from HBB.out.at_.core).here (by omega)
        obtain ⟨o, m, d, c1, c2⟩ := hcell k hk
        have hmm : m ≤ 9223372036854775807 := Nat.le_trans c2.le c2.top
        have HSP := Lib.hid c2
        have HML := Lib.hid c2.len
        clear hcell c2
        by_cases hm0 : m = 0
        · have t36 : ((m : Int) == 0) = true := by simp; exact hm0
          have HI2 : Hid (∀ j (h : j < cs.length), (k : Int) - 1 < (j : Int) → cs[j] = []) := Lib.hid (fun j h a => by
            by_cases q : j = k
            · subst q; exact List.eq_nil_of_length_eq_zero (by rw [HML.out]; exact hm0)
            · exact HI.out j h (by omega))
          clear hm0
          go_wp2
          go_round
          case rel => exact ⟨(k : Int) - 1, by omega, by omega, rfl, HI2⟩
          case measure => first | (simp [intOf]; done) | (simp [intOf]; omega)
        · have t36 : ((m : Int) == 0) = false := by simp; exact hm0
          have hne : cs[k] ≠ [] := fun z => by have := HML.out; rw [z] at this; simp at this; omega
          have hrng := edgeA.rng _ (HG.out _ (List.getElem_mem hk)) hne
          have HED := Lib.hid (fun W (h : SpAt W o m d cs[k]) => first_any o m d cs[k] W h hne)
          have HCL := Lib.hid (fun turn (q1 : t - hullA cs[k] ≤ P * turn) (q2 : P * (turn - 1) < t - hullA cs[k]) a (ha : LeastIs cs hullA (t - P * turn) a) => core_least edgeA HFU.out (by omega) HG.out HO.out p1 p2 t1 t2 hk hne (fun j h z => HI.out j h (by omega)) q1 q2 ha.le ha.here (fun j h z ne => ha.low j h z ne))
          obtain ⟨L, hL⟩ : ∃ L, cs[k] = L := ⟨_, rfl⟩
          rw [hL] at hrng HED HCL HSP
          obtain ⟨x, hx⟩ : ∃ x, hullA L = x := ⟨_, rfl⟩
          rw [hx] at hrng HED HCL
          obtain ⟨r1, r2⟩ := hrng
          clear hL hx hne hm0 HML HI
          have hP0 : P ≠ 0 := by omega
          have hP1 : ¬ (t - x = -9223372036854775808 ∧ P = -1) := by omega
          have HFL := Lib.hid (fun W => floor_ok (t - x) P W (by omega) (by omega) (by omega) (by omega) hP0 hP1)
          have HMO := Lib.hid (fmod_nat (t - x) (N := P) (by omega))
          have HEQ := Lib.hid (fmod_eq (t - x) P)
          obtain ⟨q, hq⟩ : ∃ q, (t - x).fdiv P = q := ⟨_, rfl⟩
          obtain ⟨r, hr⟩ : ∃ q, (t - x).fmod P = q := ⟨_, rfl⟩
          rw [hq, hr] at HFL HEQ
          rw [hr] at HMO
          clear hq hr
          go_upto_region 8 with fail
          have HE1 := Lib.hid (fun W (h : Below wb.heap.size wb W) => HED.out W (HSP.out.keep h))
          clear HED HSP
          go_quiet ((first | (go_at_call 36; with_reducible exact Calls.quiet_of_same (HE1.out _ (below_drewN (Below.refl _ _) _))) | (go_at_call 80; with_reducible exact Calls.quiet_of (HFL.out _)) | fail))
          have HQW : Hid (Below wb.heap.size wb (wb.drewN nq)) := Lib.hid (below_drewN (Below.refl _ _) _)
          generalize wb.drewN nq = wq at HQW
          have HBB := Lib.hid (HBB.out.keep HQW.out)
          have HSE := Lib.hid (fun i (hi : i < cs.length) => coreSet_any (some ⟨g, p, none⟩) cn cc cs b i wq HBB.out.c2 HBB.out.at_.core hi)
          have HED2 := Lib.hid (fun ao n c l (h : SpAt wq ao n c l) (ne : l ≠ []) => first_any ao n c l wq h ne)
          have HLS := Lib.hid (fun y => least_84_36 cn cs LC.out (by omega) b hullA (t - y) wq HSE.out HED2.out (fun i j hi hj q ni nj => pair_edge edgeA HG.out HO.out hi hj q ni nj))
          have e0 : wq.cell? ⟨b, 0, none⟩ = some (.int .i64 P) := HBB.out.c0
          have e1 : wq.cell? ⟨b, 1, none⟩ = some (.int .i64 (cn : Int)) := HBB.out.c1
          have e2 : wq.cell? ⟨b, 2, none⟩ = some (.slice (some ⟨g, p, none⟩) cn cc) := HBB.out.c2
          obtain ⟨v1, v2⟩ := HMO.out
          have hqb : -8796093022208 ≤ q ∧ q ≤ 8796093022208 := by
            have he := HEQ.out
            constructor
            · rcases Int.lt_or_le q 0 with z | z
              · have : P * q ≤ 1 * q := by
                  have := Int.mul_le_mul_of_nonneg_right (c := -q) p1 (by omega)
                  rw [Int.mul_neg, Int.mul_neg] at this; omega
                omega
              · omega
            · rcases Int.lt_or_le 0 q with z | z
              · have := Int.mul_le_mul_of_nonneg_right (c := q) p1 (by omega)
                omega
              · omega
          obtain ⟨qb1, qb2⟩ := hqb
          clear HSE HED2 HE1 HFL HMO HQW c1
          by_cases rp : 0 < r
          · have t59 : decide (0 < r) = true := by simp; exact rp
            have q1 : t - x ≤ P * (q + 1) := by rw [Int.mul_add, Int.mul_one]; have := HEQ.out; omega
            have q2 : P * (q + 1 - 1) < t - x := by rw [show q + 1 - 1 = q by omega]; have := HEQ.out; omega
            obtain ⟨turn, hturn⟩ : ∃ y, q + 1 = y := ⟨_, rfl⟩
            rw [hturn] at q1 q2
            have tb1 : -8796093022209 ≤ turn := by omega
            have tb2 : turn ≤ 8796093022209 := by omega
            have HQ := Lib.hid (HCL.out turn q1 q2)
            have pt : P * (turn - 1) = P * turn - P := by rw [Int.mul_sub, Int.mul_one]
            have hyb : -8796093022208 ≤ turn * P ∧ turn * P ≤ 8796093022208 := by rw [Int.mul_comm turn P]; omega
            have hzb : -92233720368547758 ≤ turn * (cn : Int) ∧ turn * (cn : Int) ≤ 92233720368547758 := by
              constructor
              · have : (-8796093022209) * (cn : Int) ≤ turn * (cn : Int) := Int.mul_le_mul_of_nonneg_right tb1 (by omega)
                omega
              · have : turn * (cn : Int) ≤ 8796093022209 * (cn : Int) := Int.mul_le_mul_of_nonneg_right tb2 (by omega)
                omega
            obtain ⟨y, hy⟩ : ∃ y, turn * P = y := ⟨_, rfl⟩
            obtain ⟨z, hz⟩ : ∃ z, turn * (cn : Int) = z := ⟨_, rfl⟩
            rw [hy] at hyb
            rw [hz] at hzb HQ
            rw [show P * turn = y by rw [← hy, Int.mul_comm]] at HQ
            have HLY := Lib.hid (HLS.out y)
            obtain ⟨y1, y2⟩ := hyb
            obtain ⟨z1, z2⟩ := hzb
            clear q1 q2 pt HLS HCL HEQ
            go_wp2_with fail
            (with_reducible refine (HLY.out).mono ?_)
            rintro e w3 ⟨a, rfl, HLE, rfl⟩
            obtain ⟨al, hci⟩ := HQ.out a HLE.out
            have al2 : a < cn := by rw [← LC.out]; exact al
            have HCI := Lib.hid hci
            have t82 : decide ((a : Int) < (cn : Int)) = true := by simp; exact al2
            clear hci al HQ
            go_upto_region 12 with fail
            go_region
            go_wp2
            go_returns
            exact ⟨⟨z + a, true, rfl, (fun _ => HCI.out), fun q => by cases q⟩, Lib.hid (HBB.out.bw.trans (Below.refl _ _).drew)⟩
          · have t59 : decide (0 < r) = false := by simp; omega
            have r0 : r = 0 := by omega
            have q1 : t - x ≤ P * q := by have := HEQ.out; omega
            have q2 : P * (q - 1) < t - x := by rw [Int.mul_sub, Int.mul_one]; have := HEQ.out; omega
            obtain ⟨turn, hturn⟩ : ∃ y, q = y := ⟨_, rfl⟩
            rw [hturn] at q1 q2
            have tb1 : -8796093022209 ≤ turn := by omega
            have tb2 : turn ≤ 8796093022209 := by omega
            have HQ := Lib.hid (HCL.out turn q1 q2)
            have pt : P * (turn - 1) = P * turn - P := by rw [Int.mul_sub, Int.mul_one]
            have hyb : -8796093022208 ≤ turn * P ∧ turn * P ≤ 8796093022208 := by rw [Int.mul_comm turn P]; omega
            have hzb : -92233720368547758 ≤ turn * (cn : Int) ∧ turn * (cn : Int) ≤ 92233720368547758 := by
              constructor
              · have : (-8796093022209) * (cn : Int) ≤ turn * (cn : Int) := Int.mul_le_mul_of_nonneg_right tb1 (by omega)
                omega
              · have : turn * (cn : Int) ≤ 8796093022209 * (cn : Int) := Int.mul_le_mul_of_nonneg_right tb2 (by omega)
                omega
            obtain ⟨y, hy⟩ : ∃ y, turn * P = y := ⟨_, rfl⟩
            obtain ⟨z, hz⟩ : ∃ z, turn * (cn : Int) = z := ⟨_, rfl⟩
            rw [hy] at hyb
            rw [hz] at hzb HQ
            rw [show P * turn = y by rw [← hy, Int.mul_comm]] at HQ
            have HLY := Lib.hid (HLS.out y)
            obtain ⟨y1, y2⟩ := hyb
            obtain ⟨z1, z2⟩ := hzb
            clear q1 q2 pt HLS HCL HEQ
            go_wp2_with fail
            (with_reducible refine (HLY.out).mono ?_)
            rintro e w3 ⟨a, rfl, HLE, rfl⟩
            obtain ⟨al, hci⟩ := HQ.out a HLE.out
            have al2 : a < cn := by rw [← LC.out]; exact al
            have HCI := Lib.hid hci
            have t82 : decide ((a : Int) < (cn : Int)) = true := by simp; exact al2
            clear hci al HQ
            go_upto_region 12 with fail
            go_region
            go_wp2
            go_returns
            exact ⟨⟨z + a, true, rfl, (fun _ => HCI.out), fun q => by cases q⟩, Lib.hid (HBB.out.bw.trans (Below.refl _ _).drew)⟩
end Go.Proofs.YtjhbgedobkpdhaaGreat
