/- Contracts: what Same of canon calls. -/
import Derived.Test.YtkhnoikdfelheaaM7
namespace Go.Proofs.Ytkhnoikdfelheaa
set_option linter.unusedVariables false
set_option linter.unusedSimpArgs false
open Go.ChangeShapes Go.WideShapes Go.ChangeAt Go.RowKit
theorem take_more {α : Type} {a b : List α} {i : Nat} (ha : i < a.length) (hb : i < b.length) (h : a.take i = b.take i) : a.take (i + 1) = b.take (i + 1) ↔ a[i] = b[i] := by
  rw [List.take_succ_eq_append_getElem ha, List.take_succ_eq_append_getElem hb, h]
  exact ⟨fun h => List.singleton_inj.1 (List.append_cancel_left h), fun h => by rw [h]⟩
set_option maxHeartbeats 4000000 in
theorem equalCo_any (ao bo : Option Addr) (n c m k : Nat) (a b : List (List Sp)) (w : World) (ha : CoAt w ao n c a) (hb : CoAt w bo m k b) (r : Bool) (hr : r = true ↔ a = b) :
    Calls Try.prog 38 #[.slice ao n c, .slice bo m k, .func (.func 17) #[] #[]] w fun e w' => e = .returned (.bool r) ∧ Below w.heap.size w w' := by
  have HA := Lib.hid ha
  have HB := Lib.hid hb
  have HR := Lib.hid hr
  have hmx : n ≤ 9223372036854775807 := Nat.le_trans ha.le ha.top
  have LA := Lib.hid ha.len
  have LB := Lib.hid hb.len
  clear ha hb hr
  by_cases hnm : n = m
  · subst hnm
    have t1 : ((n : Int) != (n : Int)) = false := by simp
    go_enter Try.func38, Try.ntmps38
    go_wp2
    go_loopw [17] (fun ii wr => ∃ i : Nat, i ≤ n ∧ ii = .int .i64 i ∧ Hid (a.take i = b.take i) ∧ Hid (Below w.heap.size w wr)) (fun ii _ => n - (intOf ii).toNat)
    case atStart => exact ⟨0, Nat.zero_le _, rfl, Lib.hid rfl, Lib.hid (Below.refl _ _)⟩
    case round =>
      obtain ⟨i, hi, rfl, HI, HW⟩ := hrel
      by_cases ilt : i < n
      · obtain ⟨x, p, rfl, hc⟩ := HA.out.here (by omega)
        obtain ⟨y, q, rfl, hd⟩ := HB.out.here (by omega)
        have hia : i < a.length := by rw [LA.out]; exact ilt
        have hib : i < b.length := by rw [LB.out]; exact ilt
        obtain ⟨o1, m1, d1, c1, s1⟩ := hc i hia
        obtain ⟨o2, m2, d2, c2, s2⟩ := hd i hib
        have c1 := cell_keep c1 HW.out
        have c2 := cell_keep c2 HW.out
        have HT := Lib.hid (take_more hia hib HI.out)
        have HGG : Hid (a = b → a[i] = b[i]) := Lib.hid (fun z => by subst z; rfl)
        obtain ⟨r2, hr2⟩ : ∃ r : Bool, r = true ↔ a[i] = b[i] := by classical exact ⟨decide _, decide_eq_true_iff⟩
        have HC := Lib.hid (same_any o1 o2 m1 d1 m2 d2 a[i] b[i] wr (s1.keep HW.out) (s2.keep HW.out) r2 hr2)
        have HR2 := Lib.hid hr2
        have i0 : (0 : Int) ≤ (i : Int) := by omega
        have i1 : (i : Int) < (n : Int) := by omega
        clear hc hd hr2 s1 s2
        go_wp2_with fail
        (with_reducible refine HC.out.mono ?_)
        rintro e w3 ⟨rfl, q3⟩
        have HW3 := Lib.hid (HW.out.trans (q3.mono HW.out.size))
        clear q3 HC c1 c2
        cases r2
        · have HF : Hid (false = r) := Lib.hid (by
            cases r
            · rfl
            · have := HR2.out.2 (HGG.out (HR.out.1 rfl))
              cases this)
          clear HT HGG HR2
          go_wp2
          go_returns
          exact ⟨ret_bool HF.out, HW3.out⟩
        · have HI2 : Hid (a.take (i + 1) = b.take (i + 1)) := Lib.hid (HT.out.2 (HR2.out.1 rfl))
          clear HT HGG HR2 HI
          go_wp2
          go_roundw
          case rel => exact ⟨i + 1, by omega, by go_num, HI2, HW3⟩
          case measure => simp [intOf]; omega
      · obtain rfl : n = i := by omega
        have HF : Hid (true = r) := Lib.hid (by
          have h := HI.out
          rw [List.take_of_length_le (by rw [LA.out]; omega), List.take_of_length_le (by rw [LB.out]; omega)] at h
          exact (HR.out.2 h).symm)
        go_wp2
        go_returns
        exact ⟨ret_bool HF.out, HW.out⟩
  · have t1 : ((n : Int) != (m : Int)) = true := by simp; omega
    have HF : Hid (false = r) := Lib.hid (by
      cases r
      · rfl
      · have h := HR.out.1 rfl
        have h1 := LA.out; have h2 := LB.out
        rw [← h] at h2
        omega)
    clear hnm
    go_enter Try.func38, Try.ntmps38
    go_wp2
    go_returns
    exact ⟨ret_bool HF.out, Below.refl _ _⟩
/-- Two exceptions are the same. -/
theorem sameGr_any (X Y : Int) (o1 o2 : Option Addr) (m1 d1 m2 d2 : Nat) (L M : List Sp) (w : World) (h1 : SpAt w o1 m1 d1 L) (h2 : SpAt w o2 m2 d2 M) (r : Bool) (hr : r = true ↔ X = Y ∧ L = M) :
    Calls Try.prog 40 #[.agg #[.int .i64 X, .slice o1 m1 d1], .agg #[.int .i64 Y, .slice o2 m2 d2]] w fun e w' => e = .returned (.bool r) ∧ Below w.heap.size w w' := by
  obtain ⟨wa, hwa⟩ : ∃ wa, w.alloc (.cells #[.int .i64 X, .slice o1 m1 d1] 43) = wa := ⟨_, rfl⟩
  obtain ⟨wb, hwb⟩ : ∃ wb, wa.alloc (.cells #[.int .i64 Y, .slice o2 m2 d2] 43) = wb := ⟨_, rfl⟩
  have KA : Below w.heap.size w wa := by rw [← hwa]; exact (Below.refl _ w).alloc (Nat.le_refl _) _
  have KB : Below wa.heap.size wa wb := by rw [← hwb]; exact (Below.refl _ wa).alloc (Nat.le_refl _) _
  obtain ⟨x0, x1⟩ := box_cells w (.int .i64 X) (.slice o1 m1 d1) 43
  obtain ⟨y0, y1⟩ := box_cells wa (.int .i64 Y) (.slice o2 m2 d2) 43
  rw [hwa] at x0 x1
  rw [hwb] at y0 y1
  have x0 := cell_keep x0 KB
  have x1 := cell_keep x1 KB
  have hsz : wa.heap.size = w.heap.size + 1 := by rw [← hwa]; simp
  rw [hsz] at y0 y1
  obtain ⟨r2, hr2⟩ : ∃ r : Bool, r = true ↔ L = M := by classical exact ⟨decide _, decide_eq_true_iff⟩
  have HC := Lib.hid (same_any o1 o2 m1 d1 m2 d2 L M wb ((h1.keep KA).keep KB) ((h2.keep KA).keep KB) r2 hr2)
  have HK := Lib.hid (KA.trans (KB.mono KA.size))
  by_cases hxy : X = Y
  · subst hxy
    have t1 : (X == X) = true := by simp
    have HF : Hid (r2 = r) := Lib.hid (by
      cases r <;> cases r2
      · rfl
      · exact absurd (hr.2 ⟨rfl, hr2.1 rfl⟩) (by simp)
      · exact absurd (hr2.2 (hr.1 rfl).2) (by simp)
      · rfl)
    clear KA KB h1 h2 hr hr2
    go_enter Try.func40, Try.ntmps40
    go_wp2_with fail
    (with_reducible refine HC.out.mono ?_)
    rintro e w3 ⟨rfl, q3⟩
    have HK3 := Lib.hid (HK.out.trans (q3.mono HK.out.size))
    clear q3 HK
    go_wp2
    go_returns
    exact ⟨ret_bool HF.out, HK3.out⟩
  · have t1 : (X == Y) = false := by simp; exact hxy
    have HF : Hid (false = r) := Lib.hid (by
      cases r
      · rfl
      · exact absurd (hr.1 rfl).1 hxy)
    clear KA KB h1 h2 hr hr2
    go_enter Try.func40, Try.ntmps40
    go_wp2
    go_returns
    exact ⟨ret_bool HF.out, HK.out⟩
set_option maxHeartbeats 4000000 in
theorem equalOd_any (ao bo : Option Addr) (n c m k : Nat) (a b : List Gr) (w : World) (ha : OdAt w ao n c a) (hb : OdAt w bo m k b) (r : Bool) (hr : r = true ↔ a = b) :
    Calls Try.prog 39 #[.slice ao n c, .slice bo m k, .func (.func 40) #[] #[]] w fun e w' => e = .returned (.bool r) ∧ Below w.heap.size w w' := by
  have HA := Lib.hid ha
  have HB := Lib.hid hb
  have HR := Lib.hid hr
  have hmx : n ≤ 9223372036854775807 := Nat.le_trans ha.le ha.top
  have LA := Lib.hid ha.len
  have LB := Lib.hid hb.len
  clear ha hb hr
  by_cases hnm : n = m
  · subst hnm
    have t1 : ((n : Int) != (n : Int)) = false := by simp
    go_enter Try.func39, Try.ntmps39
    go_wp2
    go_loopw [17] (fun ii wr => ∃ i : Nat, i ≤ n ∧ ii = .int .i64 i ∧ Hid (a.take i = b.take i) ∧ Hid (Below w.heap.size w wr)) (fun ii _ => n - (intOf ii).toNat)
    case atStart => exact ⟨0, Nat.zero_le _, rfl, Lib.hid rfl, Lib.hid (Below.refl _ _)⟩
    case round =>
      obtain ⟨i, hi, rfl, HI, HW⟩ := hrel
      by_cases ilt : i < n
      · obtain ⟨x, p, rfl, hc⟩ := HA.out.here (by omega)
        obtain ⟨y, q, rfl, hd⟩ := HB.out.here (by omega)
        have hia : i < a.length := by rw [LA.out]; exact ilt
        have hib : i < b.length := by rw [LB.out]; exact ilt
        obtain ⟨a1, ⟨o1, m1, d1, c1, s1⟩, _, _⟩ := hc i hia
        obtain ⟨a2, ⟨o2, m2, d2, c2, s2⟩, _, _⟩ := hd i hib
        have a1 := cell_keep a1 HW.out
        have a2 := cell_keep a2 HW.out
        have c1 := cell_keep c1 HW.out
        have c2 := cell_keep c2 HW.out
        have HT := Lib.hid (take_more hia hib HI.out)
        have HGG : Hid (a = b → a[i] = b[i]) := Lib.hid (fun z => by subst z; rfl)
        obtain ⟨r2, hr2⟩ : ∃ r : Bool, r = true ↔ a[i] = b[i] := by classical exact ⟨decide _, decide_eq_true_iff⟩
        have HC := Lib.hid (fun W (h : Below wr.heap.size wr W) => sameGr_any a[i].1 b[i].1 o1 o2 m1 d1 m2 d2 a[i].2 b[i].2 W ((s1.keep HW.out).keep h) ((s2.keep HW.out).keep h) r2 (by rw [hr2, Prod.ext_iff]))
        have HR2 := Lib.hid hr2
        obtain ⟨X, hX⟩ : ∃ X, a[i].1 = X := ⟨_, rfl⟩
        obtain ⟨Y, hY⟩ : ∃ X, b[i].1 = X := ⟨_, rfl⟩
        rw [hX] at a1 HC
        rw [hY] at a2 HC
        have i0 : (0 : Int) ≤ (i : Int) := by omega
        have i1 : (i : Int) < (n : Int) := by omega
        clear hc hd hr2 s1 s2 hX hY
        have HW1 := Lib.hid ((Below.refl _ wr).alloc (Nat.le_refl _) (.cells #[.int .i64 X, .slice o1 m1 d1] 43))
        have e1 := cell_keep a2 HW1.out
        have e2 := cell_keep c2 HW1.out
        have HW2 := Lib.hid (HW1.out.trans (((Below.refl _ (wr.alloc (.cells #[.int .i64 X, .slice o1 m1 d1] 43))).alloc (Nat.le_refl _) (.cells #[.int .i64 Y, .slice o2 m2 d2] 43)).mono HW1.out.size))
        have f1 := cell_keep (box_cells wr (.int .i64 X) (.slice o1 m1 d1) 43).1 ((Below.refl _ (wr.alloc (.cells #[.int .i64 X, .slice o1 m1 d1] 43))).alloc (Nat.le_refl _) (.cells #[.int .i64 Y, .slice o2 m2 d2] 43))
        have f2 := cell_keep (box_cells wr (.int .i64 X) (.slice o1 m1 d1) 43).2 ((Below.refl _ (wr.alloc (.cells #[.int .i64 X, .slice o1 m1 d1] 43))).alloc (Nat.le_refl _) (.cells #[.int .i64 Y, .slice o2 m2 d2] 43))
        have g1 := (box_cells (wr.alloc (.cells #[.int .i64 X, .slice o1 m1 d1] 43)) (.int .i64 Y) (.slice o2 m2 d2) 43).1
        have g2 := (box_cells (wr.alloc (.cells #[.int .i64 X, .slice o1 m1 d1] 43)) (.int .i64 Y) (.slice o2 m2 d2) 43).2
        have hsz : (wr.alloc (.cells #[.int .i64 X, .slice o1 m1 d1] 43)).heap.size = wr.heap.size + 1 := by simp
        rw [hsz] at g1 g2
        clear hsz
        go_wp2_with fail
        (with_reducible refine (HC.out _ HW2.out).mono ?_)
        rintro e w3 ⟨rfl, q3⟩
        have HW3 := Lib.hid (HW.out.trans ((HW2.out.trans (q3.mono HW2.out.size)).mono HW.out.size))
        clear q3 HC c1 c2 a1 a2 e1 e2 f1 f2 g1 g2 HW1 HW2
        cases r2
        · have HF : Hid (false = r) := Lib.hid (by
            cases r
            · rfl
            · have := HR2.out.2 (HGG.out (HR.out.1 rfl))
              cases this)
          clear HT HGG HR2
          go_wp2
          go_returns
          exact ⟨ret_bool HF.out, HW3.out⟩
        · have HI2 : Hid (a.take (i + 1) = b.take (i + 1)) := Lib.hid (HT.out.2 (HR2.out.1 rfl))
          clear HT HGG HR2 HI
          go_wp2
          go_roundw
          case rel => exact ⟨i + 1, by omega, by go_num, HI2, HW3⟩
          case measure => simp [intOf]; omega
      · obtain rfl : n = i := by omega
        have HF : Hid (true = r) := Lib.hid (by
          have h := HI.out
          rw [List.take_of_length_le (by rw [LA.out]; omega), List.take_of_length_le (by rw [LB.out]; omega)] at h
          exact (HR.out.2 h).symm)
        go_wp2
        go_returns
        exact ⟨ret_bool HF.out, HW.out⟩
  · have t1 : ((n : Int) != (m : Int)) = true := by simp; omega
    have HF : Hid (false = r) := Lib.hid (by
      cases r
      · rfl
      · have h := HR.out.1 rfl
        have h1 := LA.out; have h2 := LB.out
        rw [← h] at h2
        omega)
    clear hnm
    go_enter Try.func39, Try.ntmps39
    go_wp2
    go_returns
    exact ⟨ret_bool HF.out, Below.refl _ _⟩
end Go.Proofs.Ytkhnoikdfelheaa
