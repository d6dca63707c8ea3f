/- Contracts: Meet, Ahead, Same, Count, Hull. -/
import Derived.Test.YthjpnnggghfepaaS4
namespace Go.Proofs.Ythjpnnggghfepaa
set_option linter.unusedVariables false
set_option linter.unusedSimpArgs false
open Go.ChangeShapes Go.WideShapes Go.ChangeAt Go.RowKit
set_option maxHeartbeats 1000000 in
theorem meet_any (ao bo : Option Addr) (n c m d : Nat) (a b : List Sp) (w : World) (ha : SpAt w ao n c a) (hb : SpAt w bo m d b) (ga : Good a) (gb : Good b) (hn : n ≤ 1099511627776) (hm : m ≤ 1099511627776) (r : Bool) (hr : r = true ↔ ∃ t, mem a t ∧ mem b t) :
    Calls Try.prog 24 #[.slice ao n c, .slice bo m d] w fun e w' => e = .returned (.bool r) ∧ Below w.heap.size w w' := by
  have HA := Lib.hid ha
  have HB := Lib.hid hb
  have GA := Lib.hid ga
  have GB := Lib.hid gb
  have HR := Lib.hid hr
  have LA := Lib.hid ha.len
  have LB := Lib.hid hb.len
  clear ha hb ga gb hr
  by_cases hs : (m : Int) < (n : Int)
  · go_enter Try.func24, Try.ntmps24
    go_wp2
    go_loopw [17] (fun ii wr => ∃ i : Nat, i ≤ m ∧ ii = .int .i64 i ∧ Hid (∀ t, mem (b.take i) t → ¬ mem a t) ∧ Hid (Below w.heap.size w wr)) (fun ii _ => m - (intOf ii).toNat)
    case atStart => exact ⟨0, Nat.zero_le _, rfl, Lib.hid (fun t h => absurd h (mem_nil t)), Lib.hid (Below.refl _ _)⟩
    case round =>
      obtain ⟨i, hi, rfl, HI, HW⟩ := hrel
      by_cases ilt : i < m
      · obtain ⟨g, p, rfl, hc⟩ := HB.out.here (by omega)
        have hil : i < b.length := by rw [LB.out]; exact ilt
        have c1 := cell_keep (hc i hil).1 HW.out
        have c2 := cell_keep (hc i hil).2 HW.out
        have HS := Lib.hid (good_at GB.out i hil).2.1
        have HT := Lib.hid (mem_take_snoc b i hil)
        have HME := Lib.hid (List.getElem_mem hil)
        have i0 : (0 : Int) ≤ (i : Int) := by omega
        have i1 : (i : Int) < (m : Int) := by omega
        clear hc
        obtain ⟨s, hs⟩ : ∃ q, b[i] = q := ⟨_, rfl⟩
        rw [hs] at c1 c2 HS HT HME
        obtain ⟨x, y⟩ := s
        simp only at c1 c2 HS
        clear hs
        have KA := Lib.hid ((Below.refl _ wr).alloc (Nat.le_refl _) (.cells #[.int .i64 x, .int .i64 y] 35))
        have E := Lib.hid (fun w' (hb : Below wr.heap.size wr w') => ending_any ao n c a x w' ((HA.out.keep HW.out).keep hb) GA.out (by omega))
        have BC := Lib.hid (box_cells wr (.int .i64 x) (.int .i64 y) 35)
        go_upto_region 7 with (go_at_call 47; (with_reducible refine (E.out _ KA.out).mono ?_); rintro e w1 ⟨j, hj, rfl, HE, HW1⟩)
        have HK := Lib.hid (KA.out.trans (HW1.out.mono (by simp)))
        have HWK := Lib.hid (HW.out.trans (HK.out.mono HW.out.size))
        have q1 := cell_keep BC.out.1 HW1.out
        have q2 := cell_keep BC.out.2 HW1.out
        have HONE := Lib.hid (meet_one GA.out (s := (x, y)) HS.out HE.out)
        by_cases jlt : j < n
        · obtain ⟨g', p', rfl, hc'⟩ := HA.out.here (by omega)
          have hjl : j < a.length := by rw [LA.out]; exact jlt
          have d1 := cell_keep (cell_keep (hc' j hjl).1 HW.out) HK.out
          have j0 : (0 : Int) ≤ (j : Int) := by omega
          have j1 : (j : Int) < (n : Int) := by omega
          obtain ⟨z, hz⟩ : ∃ q, a[j].1 = q := ⟨_, rfl⟩
          have HZ := Lib.hid hz
          rw [hz] at d1
          clear hz hc'
          by_cases hq : z ≤ y
          · have HF : Hid (true = r) := Lib.hid (by
              obtain ⟨t, h1, h2⟩ := HONE.out.2 ⟨hjl, by have := HZ.out; show a[j].1 ≤ y; omega⟩
              exact (HR.out.2 (by first | exact ⟨t, ⟨(x, y), HME.out, h1.1, h1.2⟩, h2⟩ | exact ⟨t, h2, ⟨(x, y), HME.out, h1.1, h1.2⟩⟩)).symm)
            go_quiet (fail)
            go_wp2
            go_returns
            exact ⟨ret_bool HF.out, below_drewN HWK.out _⟩
          · have HI2 : Hid (∀ t, mem (b.take (i + 1)) t → ¬ mem a t) := Lib.hid (fun t h hb => by
              rcases (HT.out t).1 h with h | h
              · exact HI.out t h hb
              · obtain ⟨_, h1⟩ := HONE.out.1 ⟨t, h, hb⟩
                have h1' : a[j].1 ≤ y := h1
                have := HZ.out; omega)
            go_quiet (fail)
            go_wp2
            go_roundw
            case rel => exact ⟨i + 1, by omega, by go_num, HI2, Lib.hid (below_drewN HWK.out _)⟩
            case measure => simp [intOf]; omega
        · have HI2 : Hid (∀ t, mem (b.take (i + 1)) t → ¬ mem a t) := Lib.hid (fun t h hb => by
            rcases (HT.out t).1 h with h | h
            · exact HI.out t h hb
            · obtain ⟨q, h1⟩ := HONE.out.1 ⟨t, h, hb⟩
              have := LA.out; omega)
          go_quiet (fail)
          go_wp2
          go_roundw
          case rel => exact ⟨i + 1, by omega, by go_num, HI2, Lib.hid (below_drewN HWK.out _)⟩
          case measure => simp [intOf]; omega
      · have HF : Hid (false = r) := Lib.hid (by
          have h := HI.out
          rw [List.take_of_length_le (by rw [LB.out]; omega)] at h
          cases r
          · rfl
          · obtain ⟨t, h1, h2⟩ := HR.out.1 rfl
            first | exact absurd h2 (h t h1) | exact absurd h1 (h t h2))
        go_wp2
        go_returns
        exact ⟨ret_bool HF.out, HW.out⟩
  · go_enter Try.func24, Try.ntmps24
    go_wp2
    go_loopw [17] (fun ii wr => ∃ i : Nat, i ≤ n ∧ ii = .int .i64 i ∧ Hid (∀ t, mem (a.take i) t → ¬ mem b t) ∧ Hid (Below w.heap.size w wr)) (fun ii _ => n - (intOf ii).toNat)
    case atStart => exact ⟨0, Nat.zero_le _, rfl, Lib.hid (fun t h => absurd h (mem_nil t)), Lib.hid (Below.refl _ _)⟩
    case round =>
      obtain ⟨i, hi, rfl, HI, HW⟩ := hrel
      by_cases ilt : i < n
      · obtain ⟨g, p, rfl, hc⟩ := HA.out.here (by omega)
        have hil : i < a.length := by rw [LA.out]; exact ilt
        have c1 := cell_keep (hc i hil).1 HW.out
        have c2 := cell_keep (hc i hil).2 HW.out
        have HS := Lib.hid (good_at GA.out i hil).2.1
        have HT := Lib.hid (mem_take_snoc a i hil)
        have HME := Lib.hid (List.getElem_mem hil)
        have i0 : (0 : Int) ≤ (i : Int) := by omega
        have i1 : (i : Int) < (n : Int) := by omega
        clear hc
        obtain ⟨s, hs⟩ : ∃ q, a[i] = q := ⟨_, rfl⟩
        rw [hs] at c1 c2 HS HT HME
        obtain ⟨x, y⟩ := s
        simp only at c1 c2 HS
        clear hs
        have KA := Lib.hid ((Below.refl _ wr).alloc (Nat.le_refl _) (.cells #[.int .i64 x, .int .i64 y] 35))
        have E := Lib.hid (fun w' (hb : Below wr.heap.size wr w') => ending_any bo m d b x w' ((HB.out.keep HW.out).keep hb) GB.out (by omega))
        have BC := Lib.hid (box_cells wr (.int .i64 x) (.int .i64 y) 35)
        go_upto_region 7 with (go_at_call 47; (with_reducible refine (E.out _ KA.out).mono ?_); rintro e w1 ⟨j, hj, rfl, HE, HW1⟩)
        have HK := Lib.hid (KA.out.trans (HW1.out.mono (by simp)))
        have HWK := Lib.hid (HW.out.trans (HK.out.mono HW.out.size))
        have q1 := cell_keep BC.out.1 HW1.out
        have q2 := cell_keep BC.out.2 HW1.out
        have HONE := Lib.hid (meet_one GB.out (s := (x, y)) HS.out HE.out)
        by_cases jlt : j < m
        · obtain ⟨g', p', rfl, hc'⟩ := HB.out.here (by omega)
          have hjl : j < b.length := by rw [LB.out]; exact jlt
          have d1 := cell_keep (cell_keep (hc' j hjl).1 HW.out) HK.out
          have j0 : (0 : Int) ≤ (j : Int) := by omega
          have j1 : (j : Int) < (m : Int) := by omega
          obtain ⟨z, hz⟩ : ∃ q, b[j].1 = q := ⟨_, rfl⟩
          have HZ := Lib.hid hz
          rw [hz] at d1
          clear hz hc'
          by_cases hq : z ≤ y
          · have HF : Hid (true = r) := Lib.hid (by
              obtain ⟨t, h1, h2⟩ := HONE.out.2 ⟨hjl, by have := HZ.out; show b[j].1 ≤ y; omega⟩
              exact (HR.out.2 (by first | exact ⟨t, ⟨(x, y), HME.out, h1.1, h1.2⟩, h2⟩ | exact ⟨t, h2, ⟨(x, y), HME.out, h1.1, h1.2⟩⟩)).symm)
            go_quiet (fail)
            go_wp2
            go_returns
            exact ⟨ret_bool HF.out, below_drewN HWK.out _⟩
          · have HI2 : Hid (∀ t, mem (a.take (i + 1)) t → ¬ mem b t) := Lib.hid (fun t h hb => by
              rcases (HT.out t).1 h with h | h
              · exact HI.out t h hb
              · obtain ⟨_, h1⟩ := HONE.out.1 ⟨t, h, hb⟩
                have h1' : b[j].1 ≤ y := h1
                have := HZ.out; omega)
            go_quiet (fail)
            go_wp2
            go_roundw
            case rel => exact ⟨i + 1, by omega, by go_num, HI2, Lib.hid (below_drewN HWK.out _)⟩
            case measure => simp [intOf]; omega
        · have HI2 : Hid (∀ t, mem (a.take (i + 1)) t → ¬ mem b t) := Lib.hid (fun t h hb => by
            rcases (HT.out t).1 h with h | h
            · exact HI.out t h hb
            · obtain ⟨q, h1⟩ := HONE.out.1 ⟨t, h, hb⟩
              have := LB.out; omega)
          go_quiet (fail)
          go_wp2
          go_roundw
          case rel => exact ⟨i + 1, by omega, by go_num, HI2, Lib.hid (below_drewN HWK.out _)⟩
          case measure => simp [intOf]; omega
      · have HF : Hid (false = r) := Lib.hid (by
          have h := HI.out
          rw [List.take_of_length_le (by rw [LA.out]; omega)] at h
          cases r
          · rfl
          · obtain ⟨t, h1, h2⟩ := HR.out.1 rfl
            first | exact absurd h2 (h t h1) | exact absurd h1 (h t h2))
        go_wp2
        go_returns
        exact ⟨ret_bool HF.out, HW.out⟩
/-- How many ticks. -/
def count : List Sp → Int
  | [] => 0
  | s :: r => (s.2 - s.1 + 1) + count r
theorem count_snoc : ∀ (l : List Sp) (s : Sp), count (l ++ [s]) = count l + (s.2 - s.1 + 1)
  | [], s => by simp [count]
  | x :: r, s => by rw [List.cons_append]; simp only [count, count_snoc r]; omega
theorem count_le : ∀ {l : List Sp} {lo : Int}, Rt lo l → 0 ≤ count l ∧ count l + lo ≤ nxt lo l ∧ (l = [] ∨ nxt lo l ≤ 1099511627778)
  | [], lo, _ => by simp [count, nxt]
  | s :: r, lo, ⟨a, b, c, d⟩ => by
    have := count_le d
    simp only [count, nxt]
    refine ⟨by omega, by omega, .inr ?_⟩
    rcases this.2.2 with rfl | h
    · simp [nxt]; omega
    · exact h
theorem rt_take : ∀ {l : List Sp} {lo : Int}, Rt lo l → ∀ k, Rt lo (l.take k)
  | [], _, _, k => by simp [Rt]
  | s :: r, lo, ⟨a, b, c, d⟩, 0 => trivial
  | s :: r, lo, ⟨a, b, c, d⟩, k + 1 => ⟨a, b, c, rt_take d k⟩
theorem nxt_take : ∀ {l : List Sp} {lo : Int}, Rt lo l → ∀ k, nxt lo (l.take k) ≤ 1099511627778 ∨ nxt lo (l.take k) ≤ lo
  | [], lo, _, k => .inr (by simp [nxt])
  | s :: r, lo, ⟨a, b, c, d⟩, 0 => .inr (Int.le_refl _)
  | s :: r, lo, ⟨a, b, c, d⟩, k + 1 => by
    simp only [List.take_succ_cons, nxt]
    rcases nxt_take d k with h | h
    · exact .inl h
    · exact .inl (by omega)
theorem count_any (ao : Option Addr) (n c : Nat) (l : List Sp) (w : World) (hw : SpAt w ao n c l) (hg : Good l) :
    Calls Try.prog 28 #[.slice ao n c] w fun e w' => e = .returned (.int .i64 (count l)) ∧ Below w.heap.size w w' := by
  have HW := Lib.hid hw
  have HG := Lib.hid hg
  have hmx : n ≤ 9223372036854775807 := Nat.le_trans hw.le hw.top
  have LN := Lib.hid hw.len
  clear hw hg
  go_enter Try.func28, Try.ntmps28
  go_wp2
  go_loopw [3, 8] (fun nn ii wr => ∃ i : Nat, i ≤ n ∧ ii = .int .i64 i ∧ nn = .int .i64 (count (l.take i)) ∧ Hid (Below w.heap.size w wr)) (fun _ ii _ => n - (intOf ii).toNat)
  case atStart => exact ⟨0, Nat.zero_le _, rfl, rfl, Lib.hid (Below.refl _ _)⟩
  case round =>
    obtain ⟨i, hi, rfl, rfl, HB⟩ := hrel
    by_cases ilt : i < n
    · obtain ⟨g, p, rfl, hc⟩ := HW.out.here (by omega)
      have hil : i < l.length := by rw [LN.out]; exact ilt
      have c1 := cell_keep (hc i hil).1 HB.out
      have c2 := cell_keep (hc i hil).2 HB.out
      have HT : Hid (count (l.take (i + 1)) = count (l.take i) + (l[i].2 - l[i].1 + 1)) := Lib.hid (by rw [List.take_succ_eq_append_getElem hil, count_snoc])
      have b1 := good_at HG.out i hil
      have b2 := count_le (rt_take HG.out i)
      have b3 := nxt_take HG.out i
      obtain ⟨s, hs⟩ : ∃ q, l[i] = q := ⟨_, rfl⟩
      rw [hs] at c1 c2 HT b1
      obtain ⟨x, y⟩ := s
      simp only at c1 c2 HT b1
      obtain ⟨C, hC⟩ : ∃ q, count (l.take i) = q := ⟨_, rfl⟩
      rw [hC] at HT b2
      rw [hC]
      obtain ⟨N, hN⟩ : ∃ q, nxt (-1099511627776) (l.take i) = q := ⟨_, rfl⟩
      rw [hN] at b2 b3
      obtain ⟨b1a, b1b, b1c⟩ := b1
      obtain ⟨b2a, b2b, _⟩ := b2
      have i0 : (0 : Int) ≤ (i : Int) := by omega
      have i1 : (i : Int) < (n : Int) := by omega
      have u1 : C ≤ 2199023255556 := by omega
      have HB2 := Lib.hid (HB.out.alloc HB.out.size (.cells #[.int .i64 x, .int .i64 y] 35))
      clear hc hs hC hN b2b b3
      go_wp2
      go_roundw
      case rel => exact ⟨i + 1, by omega, by go_num, by rw [HT.out], HB2⟩
      case measure => simp [intOf]; omega
    · have HT : Hid (l.take i = l) := Lib.hid (List.take_of_length_le (by rw [LN.out]; omega))
      rw [HT.out]
      go_wp2
      go_returns
      exact ⟨rfl, HB.out⟩
end Go.Proofs.Ythjpnnggghfepaa
