/- Ported. -/
import Derived.Test.YtjhbgedobkpdhaaGreatSp1
import Derived.BigQuiet
import Derived.BigRegion
import Derived.Deep.DeepCutAuto
import Derived.Deep.DeepFit
import Derived.Deep.QuietTactic
import Derived.Deep.RegionHeld3
import Derived.Handy
import Derived.Laws.AppendOwn
import Derived.Laws.Bits64b
import Derived.Lib.Hide
import Derived.Lib.Mul64
import Derived.Maps.AppendAt
import Derived.OpenShut
import Derived.Outline
import Derived.OwnWalk
import Derived.ProofKit
import Derived.ScopeJumps
import Derived.WalkKit
import Derived.WalkMore
import Derived.WalkSpells
namespace Go.Proofs.YtjhbgedobkpdhaaGreat
set_option linter.unusedVariables false
set_option linter.unusedSimpArgs false
open Go.ChangeShapes Go.WideShapes Go.ChangeAt Go.RowKit
theorem end_at (b p n c k : Nat) (z t : Int) (x y : Nat) (w : World) (hk : k < n) (hz : w.cell? ⟨b, p + k * 2 + 1, none⟩ = some (.int .i64 z)) (hx : w.cell? ⟨x, 0, none⟩ = some (.slice (some ⟨b, p, none⟩) n c)) (hy : w.cell? ⟨y, 0, none⟩ = some (.int .i64 t)) :
    Calls Tryz.prog 78 #[.int .i64 k, .pointer (some ⟨x, 0, none⟩), .pointer (some ⟨y, 0, none⟩)] w fun e w' => e = .returned (.bool (decide (t ≤ z))) ∧ Below w.heap.size w w' := by
  have k0 : (0 : Int) ≤ (k : Int) := by omega
  have k1 : (k : Int) < (n : Int) := by omega
  go_enter Tryz.func78, Tryz.ntmps78
  go_wp2
  go_quiet (fail)
  go_wp2
  go_returns
  exact ⟨rfl, below_drewN (Below.refl _ _) _⟩
theorem search_end (ao : Option Addr) (n c : Nat) (l : List Sp) (t : Int) (x y : Nat) (w : World) (hw : SpAt w ao n c l) (hg : Good l) (hx : w.cell? ⟨x, 0, none⟩ = some (.slice ao n c)) (hy : w.cell? ⟨y, 0, none⟩ = some (.int .i64 t)) (hn : n ≤ 1099511627776) :
    Calls Tryz.prog 77 #[.int .i64 n, .func (.func 78) #[] #[.pointer (some ⟨x, 0, none⟩), .pointer (some ⟨y, 0, none⟩)]] w fun e w' => ∃ i : Nat, i ≤ n ∧ e = .returned (.int .i64 i) ∧ Hid (EndIs l t i) ∧ Hid (Below w.heap.size w w') := by
  have HW := Lib.hid hw
  have HG := Lib.hid hg
  have HX := Lib.hid hx
  have HY := Lib.hid hy
  have HLN := Lib.hid hw.len
  clear hw hg hx hy
  go_enter Tryz.func77, Tryz.ntmps77
  go_wp2
  go_loopw [5, 6] (fun i j wr => ∃ a b : Nat, i = .int .i64 a ∧ j = .int .i64 b ∧ a ≤ b ∧ b ≤ n ∧ Hid ((∀ j (h : j < l.length), j < a → l[j].2 < t) ∧ ∀ (h : b < l.length), t ≤ l[b].2) ∧ Hid (Below w.heap.size w wr)) (fun i j _ => (intOf j - intOf i).toNat)
  case atStart => exact ⟨0, n, rfl, rfl, Nat.zero_le _, Nat.le_refl _, Lib.hid ⟨fun j _ h => absurd h (Nat.not_lt_zero _), fun h => by have := HLN.out; omega⟩, Lib.hid (Below.refl _ _)⟩
  case round =>
    obtain ⟨a, b, rfl, rfl, hab, hbn, HI, HB⟩ := hrel
    by_cases hlt : a < b
    · obtain ⟨m, hm⟩ : ∃ m : Nat, (a + b) / 2 = m := ⟨_, rfl⟩
      have hm1 : a ≤ m := by omega
      have hm2 : m < b := by omega
      have hmi : ((a : Int) + (b : Int)) / 2 = (m : Int) := by omega
      obtain ⟨g, p, rfl, hc⟩ := HW.out.here (by omega)
      have hml : m < l.length := by rw [HLN.out]; omega
      have HC := Lib.hid (fun (w' : World) (hb : Below w.heap.size w w') => end_at g p n c m _ t x y w' (by omega) (cell_keep (hc m hml).2 hb) (cell_keep HX.out hb) (cell_keep HY.out hb))
      have HL : Hid (∀ j (h : j < l.length), j ≤ m → l[j].2 ≤ l[m].2) := Lib.hid (fun j h q => good_le HG.out j m h hml q)
      clear hm hc
      obtain ⟨z, hz⟩ : ∃ q, l[m].2 = q := ⟨_, rfl⟩
      have HZ := Lib.hid hz
      rw [hz] at HC HL
      clear hz
      by_cases hq : t ≤ z
      · have HI2 : Hid ((∀ j (h : j < l.length), j < a → l[j].2 < t) ∧ ∀ (h : m < l.length), t ≤ l[m].2) := Lib.hid ⟨HI.out.1, fun h => by rw [HZ.out]; exact hq⟩
        have HC2 : Hid (∀ w', Below w.heap.size w w' → Calls Tryz.prog 78 #[.int .i64 m, .pointer (some ⟨x, 0, none⟩), .pointer (some ⟨y, 0, none⟩)] w' fun e w'' => e = .returned (.bool true) ∧ Below w'.heap.size w' w'') := by
          rw [decide_eq_true hq] at HC; exact HC
        clear HC HI
        go_wp2_with (go_at_call 78; (with_reducible refine (HC2.out _ HB.out).mono ?_); rintro e w1 ⟨rfl, b1⟩; have HB1 := Lib.hid (HB.out.trans (b1.mono HB.out.size)); clear b1)
        go_roundw
        case rel => exact ⟨a, m, rfl, rfl, hm1, by omega, HI2, HB1⟩
        case measure => simp [intOf]; omega
      · have HI2 : Hid ((∀ j (h : j < l.length), j < m + 1 → l[j].2 < t) ∧ ∀ (h : b < l.length), t ≤ l[b].2) := Lib.hid ⟨fun j h q => by have := HL.out j h (by omega); omega, HI.out.2⟩
        have HC2 : Hid (∀ w', Below w.heap.size w w' → Calls Tryz.prog 78 #[.int .i64 m, .pointer (some ⟨x, 0, none⟩), .pointer (some ⟨y, 0, none⟩)] w' fun e w'' => e = .returned (.bool false) ∧ Below w'.heap.size w' w'') := by
          rw [decide_eq_false hq] at HC; exact HC
        clear HC HI
        go_wp2_with (go_at_call 78; (with_reducible refine (HC2.out _ HB.out).mono ?_); rintro e w1 ⟨rfl, b1⟩; have HB1 := Lib.hid (HB.out.trans (b1.mono HB.out.size)); clear b1)
        go_roundw
        case rel => exact ⟨m + 1, b, by go_num, rfl, by omega, hbn, HI2, HB1⟩
        case measure => simp [intOf]; omega
    · obtain rfl : a = b := by omega
      go_wp2
      go_returns
      exact ⟨a, hbn, rfl, Lib.hid ⟨HI.out.1, HI.out.2⟩, HB⟩
theorem ending_any (ao : Option Addr) (n c : Nat) (l : List Sp) (t : Int) (w : World) (hw : SpAt w ao n c l) (hg : Good l) (hn : n ≤ 1099511627776) :
    Calls Tryz.prog 56 #[.slice ao n c, .int .i64 t] w fun e w' => ∃ i : Nat, i ≤ n ∧ e = .returned (.int .i64 i) ∧ Hid (EndIs l t i) ∧ Hid (Below w.heap.size w w') := by
  have b1 := (Below.refl _ w).alloc (Nat.le_refl _) (.cells #[.slice ao n c] 27)
  have b2 := (Below.refl _ (w.alloc (.cells #[.slice ao n c] 27))).alloc (Nat.le_refl _) (.cells #[.int .i64 t] 3)
  have b3 := b1.trans (b2.mono (by simp))
  have c1 := cell_keep (box_one w (.slice ao n c) 27) b2
  have c2 := box_one (w.alloc (.cells #[.slice ao n c] 27)) (.int .i64 t) 3
  rw [show (w.alloc (.cells #[.slice ao n c] 27)).heap.size = w.heap.size + 1 by simp] at c2
  have S := Lib.hid (search_end ao n c l t w.heap.size (w.heap.size + 1) _ (hw.keep b3) hg c1 c2 hn)
  have HB := Lib.hid b3
  have HC := Lib.hid (And.intro c1 c2)
  clear b1 b2 b3 c1 c2 hw hg
  go_enter Tryz.func56, Tryz.ntmps56
  go_wp2_with (go_at_call 77; (with_reducible refine (S.out).mono ?_); rintro e w1 ⟨i, hi, rfl, HI, HB1⟩)
  go_returns
  exact ⟨i, hi, rfl, HI, Lib.hid (HB.out.trans (HB1.out.mono HB.out.size))⟩
theorem has_any (ao : Option Addr) (n c : Nat) (l : List Sp) (t : Int) (w : World) (hw : SpAt w ao n c l) (hg : Good l) (hn : n ≤ 1099511627776) (r : Bool) (hr : r = true ↔ mem l t) :
    Calls Tryz.prog 26 #[.slice ao n c, .int .i64 t] w fun e w' => e = .returned (.bool r) ∧ Below w.heap.size w w' := by
  have E := Lib.hid (ending_any ao n c l t w hw hg hn)
  have HW := Lib.hid hw
  have HR := Lib.hid hr
  have HG := Lib.hid hg
  have HLN := Lib.hid hw.len
  clear hw hr hg
  go_enter Tryz.func26, Tryz.ntmps26
  go_upto_region 2 with (go_at_call 56; (with_reducible refine (E.out).mono ?_); rintro e w1 ⟨i, hi, rfl, HI, HB⟩)
  by_cases hlt : i < n
  · obtain ⟨b, p, rfl, hc⟩ := HW.out.here (by omega)
    have hil : i < l.length := by rw [HLN.out]; exact hlt
    have c1 := cell_keep (hc i hil).1 HB.out
    have HE : Hid (decide (l[i].1 ≤ t) = r) := Lib.hid (by
      have q := end_mem HG.out HI.out
      by_cases z : l[i].1 ≤ t
      · rw [decide_eq_true z]; exact (HR.out.2 (q.2 ⟨hil, z⟩)).symm
      · rw [decide_eq_false z]
        cases r
        · rfl
        · obtain ⟨_, z'⟩ := q.1 (HR.out.1 rfl); exact absurd z' z)
    obtain ⟨z, hz⟩ : ∃ q, l[i].1 = q := ⟨_, rfl⟩
    rw [hz] at c1 HE
    clear hz hc
    have i0 : (0 : Int) ≤ (i : Int) := by omega
    have i1 : (i : Int) < (n : Int) := by omega
    go_wp2
    go_returns
    exact ⟨ret_bool HE.out, HB.out⟩
  · have HE : Hid (false = r) := Lib.hid (by
      cases r
      · rfl
      · obtain ⟨z', _⟩ := (end_mem HG.out HI.out).1 (HR.out.1 rfl); have := HLN.out; omega)
    go_wp2
    go_returns
    exact ⟨ret_bool HE.out, HB.out⟩
set_option maxHeartbeats 1000000 in
theorem meet_any (ao bo : Option Addr) (n c m d : Nat) (a b : List Sp) (w : World) (ha : SpAt w ao n c a) (hb : SpAt w bo m d b) (ga : Good a) (gb : Good b) (hn : n ≤ 1099511627776) (hm : m ≤ 1099511627776) (r : Bool) (hr : r = true ↔ ∃ t, mem a t ∧ mem b t) :
    Calls Tryz.prog 46 #[.slice ao n c, .slice bo m d] w fun e w' => e = .returned (.bool r) ∧ Below w.heap.size w w' := by
  have HA := Lib.hid ha
  have HB := Lib.hid hb
  have GA := Lib.hid ga
  have GB := Lib.hid gb
  have HR := Lib.hid hr
  have LA := Lib.hid ha.len
  have LB := Lib.hid hb.len
  clear ha hb ga gb hr
  by_cases hs : (m : Int) < (n : Int)
  · go_enter Tryz.func46, Tryz.ntmps46
    go_wp2
    go_loopw [17] (fun ii wr => ∃ i : Nat, i ≤ m ∧ ii = .int .i64 i ∧ Hid (∀ t, mem (b.take i) t → ¬ mem a t) ∧ Hid (Below w.heap.size w wr)) (fun ii _ => m - (intOf ii).toNat)
    case atStart => exact ⟨0, Nat.zero_le _, rfl, Lib.hid (fun t h => absurd h (mem_nil t)), Lib.hid (Below.refl _ _)⟩
    case round =>
      obtain ⟨i, hi, rfl, HI, HW⟩ := hrel
      by_cases ilt : i < m
      · obtain ⟨g, p, rfl, hc⟩ := HB.out.here (by omega)
        have hil : i < b.length := by rw [LB.out]; exact ilt
        have c1 := cell_keep (hc i hil).1 HW.out
        have c2 := cell_keep (hc i hil).2 HW.out
        have HS := Lib.hid (good_at GB.out i hil).2.1
        have HT := Lib.hid (mem_take_snoc b i hil)
        have HME := Lib.hid (List.getElem_mem hil)
        have i0 : (0 : Int) ≤ (i : Int) := by omega
        have i1 : (i : Int) < (m : Int) := by omega
        clear hc
        obtain ⟨s, hs⟩ : ∃ q, b[i] = q := ⟨_, rfl⟩
        rw [hs] at c1 c2 HS HT HME
        obtain ⟨x, y⟩ := s
        simp only at c1 c2 HS
        clear hs
        have KA := Lib.hid ((Below.refl _ wr).alloc (Nat.le_refl _) (.cells #[.int .i64 x, .int .i64 y] 38))
        have E := Lib.hid (fun w' (hb : Below wr.heap.size wr w') => ending_any ao n c a x w' ((HA.out.keep HW.out).keep hb) GA.out (by omega))
        have BC := Lib.hid (box_cells wr (.int .i64 x) (.int .i64 y) 38)
        go_upto_region 7 with (go_at_call 56; (with_reducible refine (E.out _ KA.out).mono ?_); rintro e w1 ⟨j, hj, rfl, HE, HW1⟩)
        have HK := Lib.hid (KA.out.trans (HW1.out.mono (by simp)))
        have HWK := Lib.hid (HW.out.trans (HK.out.mono HW.out.size))
        have q1 := cell_keep BC.out.1 HW1.out
        have q2 := cell_keep BC.out.2 HW1.out
        have HONE := Lib.hid (meet_one GA.out (s := (x, y)) HS.out HE.out)
        by_cases jlt : j < n
        · obtain ⟨g', p', rfl, hc'⟩ := HA.out.here (by omega)
          have hjl : j < a.length := by rw [LA.out]; exact jlt
          have d1 := cell_keep (cell_keep (hc' j hjl).1 HW.out) HK.out
          have j0 : (0 : Int) ≤ (j : Int) := by omega
          have j1 : (j : Int) < (n : Int) := by omega
          obtain ⟨z, hz⟩ : ∃ q, a[j].1 = q := ⟨_, rfl⟩
          have HZ := Lib.hid hz
          rw [hz] at d1
          clear hz hc'
          by_cases hq : z ≤ y
          · have HF : Hid (true = r) := Lib.hid (by
              obtain ⟨t, h1, h2⟩ := HONE.out.2 ⟨hjl, by have := HZ.out; show a[j].1 ≤ y; omega⟩
              exact (HR.out.2 (by first | exact ⟨t, ⟨(x, y), HME.out, h1.1, h1.2⟩, h2⟩ | exact ⟨t, h2, ⟨(x, y), HME.out, h1.1, h1.2⟩⟩)).symm)
            go_quiet (fail)
            go_wp2
            go_returns
            exact ⟨ret_bool HF.out, below_drewN HWK.out _⟩
          · have HI2 : Hid (∀ t, mem (b.take (i + 1)) t → ¬ mem a t) := Lib.hid (fun t h hb => by
              rcases (HT.out t).1 h with h | h
              · exact HI.out t h hb
              · obtain ⟨_, h1⟩ := HONE.out.1 ⟨t, h, hb⟩
                have h1' : a[j].1 ≤ y := h1
                have := HZ.out; omega)
            go_quiet (fail)
            go_wp2
            go_roundw
            case rel => exact ⟨i + 1, by omega, by go_num, HI2, Lib.hid (below_drewN HWK.out _)⟩
            case measure => simp [intOf]; omega
        · have HI2 : Hid (∀ t, mem (b.take (i + 1)) t → ¬ mem a t) := Lib.hid (fun t h hb => by
            rcases (HT.out t).1 h with h | h
            · exact HI.out t h hb
            · obtain ⟨q, h1⟩ := HONE.out.1 ⟨t, h, hb⟩
              have := LA.out; omega)
          go_quiet (fail)
          go_wp2
          go_roundw
          case rel => exact ⟨i + 1, by omega, by go_num, HI2, Lib.hid (below_drewN HWK.out _)⟩
          case measure => simp [intOf]; omega
      · have HF : Hid (false = r) := Lib.hid (by
          have h := HI.out
          rw [List.take_of_length_le (by rw [LB.out]; omega)] at h
          cases r
          · rfl
          · obtain ⟨t, h1, h2⟩ := HR.out.1 rfl
            first | exact absurd h2 (h t h1) | exact absurd h1 (h t h2))
        go_wp2
        go_returns
        exact ⟨ret_bool HF.out, HW.out⟩
  · go_enter Tryz.func46, Tryz.ntmps46
    go_wp2
    go_loopw [17] (fun ii wr => ∃ i : Nat, i ≤ n ∧ ii = .int .i64 i ∧ Hid (∀ t, mem (a.take i) t → ¬ mem b t) ∧ Hid (Below w.heap.size w wr)) (fun ii _ => n - (intOf ii).toNat)
    case atStart => exact ⟨0, Nat.zero_le _, rfl, Lib.hid (fun t h => absurd h (mem_nil t)), Lib.hid (Below.refl _ _)⟩
    case round =>
      obtain ⟨i, hi, rfl, HI, HW⟩ := hrel
      by_cases ilt : i < n
      · obtain ⟨g, p, rfl, hc⟩ := HA.out.here (by omega)
        have hil : i < a.length := by rw [LA.out]; exact ilt
        have c1 := cell_keep (hc i hil).1 HW.out
        have c2 := cell_keep (hc i hil).2 HW.out
        have HS := Lib.hid (good_at GA.out i hil).2.1
        have HT := Lib.hid (mem_take_snoc a i hil)
        have HME := Lib.hid (List.getElem_mem hil)
        have i0 : (0 : Int) ≤ (i : Int) := by omega
        have i1 : (i : Int) < (n : Int) := by omega
        clear hc
        obtain ⟨s, hs⟩ : ∃ q, a[i] = q := ⟨_, rfl⟩
        rw [hs] at c1 c2 HS HT HME
        obtain ⟨x, y⟩ := s
        simp only at c1 c2 HS
        clear hs
        have KA := Lib.hid ((Below.refl _ wr).alloc (Nat.le_refl _) (.cells #[.int .i64 x, .int .i64 y] 38))
        have E := Lib.hid (fun w' (hb : Below wr.heap.size wr w') => ending_any bo m d b x w' ((HB.out.keep HW.out).keep hb) GB.out (by omega))
        have BC := Lib.hid (box_cells wr (.int .i64 x) (.int .i64 y) 38)
        go_upto_region 7 with (go_at_call 56; (with_reducible refine (E.out _ KA.out).mono ?_); rintro e w1 ⟨j, hj, rfl, HE, HW1⟩)
        have HK := Lib.hid (KA.out.trans (HW1.out.mono (by simp)))
        have HWK := Lib.hid (HW.out.trans (HK.out.mono HW.out.size))
        have q1 := cell_keep BC.out.1 HW1.out
        have q2 := cell_keep BC.out.2 HW1.out
        have HONE := Lib.hid (meet_one GB.out (s := (x, y)) HS.out HE.out)
        by_cases jlt : j < m
        · obtain ⟨g', p', rfl, hc'⟩ := HB.out.here (by omega)
          have hjl : j < b.length := by rw [LB.out]; exact jlt
          have d1 := cell_keep (cell_keep (hc' j hjl).1 HW.out) HK.out
          have j0 : (0 : Int) ≤ (j : Int) := by omega
          have j1 : (j : Int) < (m : Int) := by omega
          obtain ⟨z, hz⟩ : ∃ q, b[j].1 = q := ⟨_, rfl⟩
          have HZ := Lib.hid hz
          rw [hz] at d1
          clear hz hc'
          by_cases hq : z ≤ y
          · have HF : Hid (true = r) := Lib.hid (by
              obtain ⟨t, h1, h2⟩ := HONE.out.2 ⟨hjl, by have := HZ.out; show b[j].1 ≤ y; omega⟩
              exact (HR.out.2 (by first | exact ⟨t, ⟨(x, y), HME.out, h1.1, h1.2⟩, h2⟩ | exact ⟨t, h2, ⟨(x, y), HME.out, h1.1, h1.2⟩⟩)).symm)
            go_quiet (fail)
            go_wp2
            go_returns
            exact ⟨ret_bool HF.out, below_drewN HWK.out _⟩
          · have HI2 : Hid (∀ t, mem (a.take (i + 1)) t → ¬ mem b t) := Lib.hid (fun t h hb => by
              rcases (HT.out t).1 h with h | h
              · exact HI.out t h hb
              · obtain ⟨_, h1⟩ := HONE.out.1 ⟨t, h, hb⟩
                have h1' : b[j].1 ≤ y := h1
                have := HZ.out; omega)
            go_quiet (fail)
            go_wp2
            go_roundw
            case rel => exact ⟨i + 1, by omega, by go_num, HI2, Lib.hid (below_drewN HWK.out _)⟩
            case measure => simp [intOf]; omega
        · have HI2 : Hid (∀ t, mem (a.take (i + 1)) t → ¬ mem b t) := Lib.hid (fun t h hb => by
            rcases (HT.out t).1 h with h | h
            · exact HI.out t h hb
            · obtain ⟨q, h1⟩ := HONE.out.1 ⟨t, h, hb⟩
              have := LB.out; omega)
          go_quiet (fail)
          go_wp2
          go_roundw
          case rel => exact ⟨i + 1, by omega, by go_num, HI2, Lib.hid (below_drewN HWK.out _)⟩
          case measure => simp [intOf]; omega
      · have HF : Hid (false = r) := Lib.hid (by
          have h := HI.out
          rw [List.take_of_length_le (by rw [LA.out]; omega)] at h
          cases r
          · rfl
          · obtain ⟨t, h1, h2⟩ := HR.out.1 rfl
            first | exact absurd h2 (h t h1) | exact absurd h1 (h t h2))
        go_wp2
        go_returns
        exact ⟨ret_bool HF.out, HW.out⟩
end Go.Proofs.YtjhbgedobkpdhaaGreat
