/- Contracts: Within, Meet, Ahead, Same, Count, Hull. -/
import Derived.Test.YthjpnnggghfepaaS3
namespace Go.Proofs.Ythjpnnggghfepaa
set_option linter.unusedVariables false
set_option linter.unusedSimpArgs false
open Go.ChangeShapes Go.WideShapes Go.ChangeAt Go.RowKit
theorem box_cells (w : World) (x y : Value) (t : TypeId) : (w.alloc (.cells #[x, y] t)).cell? ⟨w.heap.size, 0, none⟩ = some x ∧ (w.alloc (.cells #[x, y] t)).cell? ⟨w.heap.size, 1, none⟩ = some y := by
  have h : (w.alloc (.cells #[x, y] t)).heap[w.heap.size]? = some (.cells #[x, y] t) := by
    show (w.heap.push _)[w.heap.size]? = _
    simp
  constructor <;> (unfold World.cell?; rw [h]; rfl)
theorem within_one {b : List Sp} {lo : Int} (hg : Rt lo b) {s : Sp} (hs : s.1 ≤ s.2) {i : Nat} (h : EndIs b s.2 i) : (∀ t, s.1 ≤ t → t ≤ s.2 → mem b t) ↔ ∃ q : i < b.length, b[i].1 ≤ s.1 := by
  constructor
  · intro z
    obtain ⟨q, h1⟩ := (end_mem hg h).1 (z s.2 hs (Int.le_refl _))
    refine ⟨q, ?_⟩
    by_cases c : b[i].1 ≤ s.1
    · exact c
    · obtain ⟨u, hu, u1, u2⟩ := z (b[i].1 - 1) (by omega) (by omega)
      obtain ⟨j, hj, rfl⟩ := List.getElem_of_mem hu
      rcases Nat.lt_trichotomy j i with e | e | e
      · have := good_lt hg j i hj q e; omega
      · subst e; omega
      · have := good_lt hg i j q hj e
        have := good_at hg i q
        omega
  · rintro ⟨q, h1⟩ t t1 t2
    exact ⟨b[i], List.getElem_mem q, by omega, by have := h.high q; omega⟩
theorem meet_one {b : List Sp} {lo : Int} (hg : Rt lo b) {s : Sp} (hs : s.1 ≤ s.2) {i : Nat} (h : EndIs b s.1 i) : (∃ t, (s.1 ≤ t ∧ t ≤ s.2) ∧ mem b t) ↔ ∃ q : i < b.length, b[i].1 ≤ s.2 := by
  constructor
  · rintro ⟨t, ⟨t1, t2⟩, u, hu, u1, u2⟩
    obtain ⟨j, hj, rfl⟩ := List.getElem_of_mem hu
    rcases Nat.lt_trichotomy j i with e | e | e
    · have := h.low j hj e; omega
    · subst e; exact ⟨hj, by omega⟩
    · have q : i < b.length := by omega
      have := good_lt hg i j q hj e
      have := good_at hg i q
      exact ⟨q, by omega⟩
  · rintro ⟨q, h1⟩
    have := h.high q
    have := good_at hg i q
    exact ⟨max s.1 b[i].1, ⟨by omega, by omega⟩, b[i], List.getElem_mem q, by omega, by omega⟩

set_option maxHeartbeats 1000000 in
theorem within_any (ao bo : Option Addr) (n c m d : Nat) (a b : List Sp) (w : World) (ha : SpAt w ao n c a) (hb : SpAt w bo m d b) (ga : Good a) (gb : Good b) (hm : m ≤ 1099511627776) (r : Bool) (hr : r = true ↔ ∀ t, mem a t → mem b t) :
    Calls Try.prog 23 #[.slice ao n c, .slice bo m d] w fun e w' => e = .returned (.bool r) ∧ Below w.heap.size w w' := by
  have HA := Lib.hid ha
  have HB := Lib.hid hb
  have GA := Lib.hid ga
  have GB := Lib.hid gb
  have HR := Lib.hid hr
  have hmx : n ≤ 9223372036854775807 := Nat.le_trans ha.le ha.top
  have LA := Lib.hid ha.len
  have LB := Lib.hid hb.len
  clear ha hb ga gb hr
  go_enter Try.func23, Try.ntmps23
  go_wp2
  go_loopw [10] (fun ii wr => ∃ i : Nat, i ≤ n ∧ ii = .int .i64 i ∧ Hid (∀ t, mem (a.take i) t → mem b t) ∧ Hid (Below w.heap.size w wr)) (fun ii _ => n - (intOf ii).toNat)
  case atStart => exact ⟨0, Nat.zero_le _, rfl, Lib.hid (fun t h => absurd h (mem_nil t)), Lib.hid (Below.refl _ _)⟩
  case round =>
    obtain ⟨i, hi, rfl, HI, HW⟩ := hrel
    by_cases ilt : i < n
    · obtain ⟨g, p, rfl, hc⟩ := HA.out.here (by omega)
      have hil : i < a.length := by rw [LA.out]; exact ilt
      have c1 := cell_keep (hc i hil).1 HW.out
      have c2 := cell_keep (hc i hil).2 HW.out
      have HS := Lib.hid (good_at GA.out i hil).2.1
      have HT := Lib.hid (mem_take_snoc a i hil)
      have HME := Lib.hid (List.getElem_mem hil)
      have i0 : (0 : Int) ≤ (i : Int) := by omega
      have i1 : (i : Int) < (n : Int) := by omega
      clear hc
      obtain ⟨s, hs⟩ : ∃ q, a[i] = q := ⟨_, rfl⟩
      rw [hs] at c1 c2 HS HT HME
      obtain ⟨x, y⟩ := s
      simp only at c1 c2 HS
      clear hs
      have KA := Lib.hid ((Below.refl _ wr).alloc (Nat.le_refl _) (.cells #[.int .i64 x, .int .i64 y] 35))
      have E := Lib.hid (fun w' (hb : Below wr.heap.size wr w') => ending_any bo m d b y w' ((HB.out.keep HW.out).keep hb) GB.out hm)
      have BC := Lib.hid (box_cells wr (.int .i64 x) (.int .i64 y) 35)
      go_upto_region 5 with (go_at_call 47; (with_reducible refine (E.out _ KA.out).mono ?_); rintro e w1 ⟨j, hj, rfl, HE, HW1⟩)
      have HK := Lib.hid (KA.out.trans (HW1.out.mono (by simp)))
      have HWK := Lib.hid (HW.out.trans (HK.out.mono HW.out.size))
      have q1 := cell_keep BC.out.1 HW1.out
      have q2 := cell_keep BC.out.2 HW1.out
      have HONE := Lib.hid (within_one GB.out (s := (x, y)) HS.out HE.out)
      by_cases jlt : j < m
      · obtain ⟨g', p', rfl, hc'⟩ := HB.out.here (by omega)
        have hjl : j < b.length := by rw [LB.out]; exact jlt
        have d1 := cell_keep (cell_keep (hc' j hjl).1 HW.out) HK.out
        have j0 : (0 : Int) ≤ (j : Int) := by omega
        have j1 : (j : Int) < (m : Int) := by omega
        have jm : ((j : Int) == (m : Int)) = false := by simp; omega
        obtain ⟨z, hz⟩ : ∃ q, b[j].1 = q := ⟨_, rfl⟩
        have HZ := Lib.hid hz
        rw [hz] at d1
        clear hz hc'
        by_cases hq : x < z
        · have HF : Hid (false = r) := Lib.hid (by
            cases r
            · rfl
            · obtain ⟨q, h1⟩ := HONE.out.1 (fun t t1 t2 => HR.out.1 rfl t ⟨(x, y), HME.out, t1, t2⟩)
              have := HZ.out
              have h1' : b[j].1 ≤ x := h1
              omega)
          go_quiet (fail)
          go_wp2
          go_returns
          exact ⟨ret_bool HF.out, below_drewN HWK.out _⟩
        · have HI2 : Hid (∀ t, mem (a.take (i + 1)) t → mem b t) := Lib.hid (fun t h => by
            rcases (HT.out t).1 h with h | h
            · exact HI.out t h
            · exact HONE.out.2 ⟨hjl, by have := HZ.out; show b[j].1 ≤ x; omega⟩ t h.1 h.2)
          go_quiet (fail)
          go_wp2
          go_roundw
          case rel => exact ⟨i + 1, by omega, by go_num, HI2, Lib.hid (below_drewN HWK.out _)⟩
          case measure => simp [intOf]; omega
      · have jm : ((j : Int) == (m : Int)) = true := by simp; omega
        have HF : Hid (false = r) := Lib.hid (by
          cases r
          · rfl
          · obtain ⟨q, h1⟩ := HONE.out.1 (fun t t1 t2 => HR.out.1 rfl t ⟨(x, y), HME.out, t1, t2⟩)
            have := LB.out; omega)
        go_quiet (fail)
        go_wp2
        go_returns
        exact ⟨ret_bool HF.out, below_drewN HWK.out _⟩
    · have HF : Hid (true = r) := Lib.hid (by
        have h := HI.out
        rw [List.take_of_length_le (by rw [LA.out]; omega)] at h
        exact (HR.out.2 h).symm)
      go_wp2
      go_returns
      exact ⟨ret_bool HF.out, HW.out⟩
end Go.Proofs.Ythjpnnggghfepaa
