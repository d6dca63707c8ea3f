/- Contracts: the document's Move. -/
import Derived.Test.YthjpnnggghfepaaS8
import Derived.Test.YthjpnnggghfepaaU4
namespace Go.Proofs.Ythjpnnggghfepaa
set_option linter.unusedVariables false
set_option linter.unusedSimpArgs false
open Go.ChangeShapes Go.WideShapes Go.ChangeAt Go.RowKit
theorem moved_snoc (l : List Sp) (i : Nat) (h : i < l.length) (d : Int) : moved (l.take (i + 1)) d = moved (l.take i) d ++ [(l[i].1 + d, l[i].2 + d)] := by
  rw [List.take_succ_eq_append_getElem h]; unfold moved; rw [List.map_append]; rfl
set_option maxHeartbeats 2000000 in
theorem refMove_any (ao : Option Addr) (n c : Nat) (l : List Sp) (ga : Good l) (hn : n ≤ 1000000) (d : Int) (hd1 : -9223372036854775808 ≤ d) (hd2 : d ≤ 9223372036854775807) (w : World) (hl : SpAt w ao n c l) :
    Calls Try.prog 32 #[.slice ao n c, .int .i64 d] w fun e w' => ∃ (v : Value) (k : Int), e = .returned (.tuple #[v, .int .i64 k]) ∧ Below w.heap.size w w' ∧
      (((∀ s ∈ l, okSp d s) ∧ k = 0 ∧ w'.ownsRow w.heap.size 35 2 v n (spCells (moved l d))) ∨ ((∃ s ∈ l, ¬ okSp d s) ∧ k = 20 ∧ v = .slice none 0 0)) := by
  obtain ⟨i0, hi, hz0, hz1, hz2⟩ := info_parts info35
  have HI := Lib.hid hi
  have HZ0 := Lib.hid hz0
  have HZ1 := Lib.hid hz1
  have HZ2 := Lib.hid hz2
  have HL := Lib.hid hl
  have HG := Lib.hid ga
  have LN := Lib.hid hl.len
  clear hi hz0 hz1 hz2 hl ga
  go_enter Try.func32, Try.ntmps32
  go_wp2
  go_loopw [6, 7] (fun v ii wr => ∃ i : Nat, i ≤ n ∧ ii = .int .i64 i ∧ Hid (wr.ownsRow w.heap.size 35 2 v i (spCells (moved (l.take i) d))) ∧ Hid (∀ s ∈ l.take i, okSp d s) ∧ Hid (Below w.heap.size w wr)) (fun _ ii _ => n - (intOf ii).toNat)
  case atStart => exact ⟨0, Nat.zero_le _, rfl, Lib.hid (World.ownsRow_nil _ _ _ _), Lib.hid (fun s h => by cases h), Lib.hid (Below.refl _ _)⟩
  case round =>
    obtain ⟨i, hi, rfl, HO, HS, HW⟩ := hrel
    by_cases ilt : i < n
    · obtain ⟨b, p, rfl, hc⟩ := HL.out.here (by omega)
      have hil : i < l.length := by rw [LN.out]; exact ilt
      have c1 := cell_keep (hc i hil).1 HW.out
      have c2 := cell_keep (hc i hil).2 HW.out
      have g1 := good_at HG.out i hil
      have HT := Lib.hid (fun s => mem_take_succ (s := s) hil)
      have HM := Lib.hid (List.getElem_mem hil)
      have HSN := Lib.hid (moved_snoc l i hil d)
      have i0' : (0 : Int) ≤ (i : Int) := by omega
      have i1' : (i : Int) < (n : Int) := by omega
      clear hc
      obtain ⟨s, hs⟩ : ∃ z, l[i] = z := ⟨_, rfl⟩
      rw [hs] at c1 c2 g1 HT HM HSN
      clear hs hil
      obtain ⟨x, y⟩ := s
      simp only at c1 c2 g1 HSN
      obtain ⟨g1, g2, g3⟩ := g1
      by_cases h1 : 1099511627776 - y < d
      · have HNO : Hid (¬ okSp d (x, y)) := Lib.hid (fun q => by have := q.2.2; simp only at this; omega)
        go_wp2
        go_returns
        first | exact ⟨_, _, rfl, HW.out, .inr ⟨⟨_, HM.out, HNO.out⟩, rfl, rfl⟩⟩ | exact ⟨_, _, rfl, HW.out, .inr ⟨⟨_, _, HM.out, HNO.out⟩, rfl, rfl⟩⟩
      · by_cases h2 : d < -1099511627776 - x
        · have HNO : Hid (¬ okSp d (x, y)) := Lib.hid (fun q => by have := q.1.1; simp only at this; omega)
          go_wp2
          go_returns
          first | exact ⟨_, _, rfl, HW.out, .inr ⟨⟨_, HM.out, HNO.out⟩, rfl, rfl⟩⟩ | exact ⟨_, _, rfl, HW.out, .inr ⟨⟨_, _, HM.out, HNO.out⟩, rfl, rfl⟩⟩
        · have HOK : Hid (okSp d (x, y)) := Lib.hid ⟨⟨by simp only; omega, by simp only; omega⟩, by simp only; omega, by simp only; omega⟩
          have HS2 : Hid (∀ s ∈ l.take (i + 1), okSp d s) := Lib.hid (fun s hs => by rcases (HT.out s).1 hs with h | rfl; exact HS.out s h; exact HOK.out)
          have e1 : IntKind.i64.wrap (x + d) = x + d := IntWalk.i64_in _ (by omega)
          have e2 : IntKind.i64.wrap (y + d) = y + d := IntWalk.i64_in _ (by omega)
          have HC : Hid (spCells (moved (l.take i) d) ++ [.int .i64 (x + d), .int .i64 (y + d)] = spCells (moved (l.take (i + 1)) d)) := Lib.hid (by rw [HSN.out, spCells_snoc])
          clear HT HSN HS
          go_upto_region 7 with fail
          go_region_law (refine step_append_lies _ rfl _ _ 22 rfl w.heap.size 35 i0 (.agg #[.int .i64 0, .int .i64 0]) 2 16 Try.underlying22 HI.out HZ0.out HZ1.out HZ2.out rfl (by decide) u6 i _ rfl (keepB HO.out (((Below.refl _ wr).drew).alloc (Nat.le_refl _) _)) ⟨wr.heap.size, 0, none⟩ 1 1 [.int .i64 (x + d), .int .i64 (y + d)] rfl rfl (cells_new2 wr.drew _ _ _) (by intro z hz; simp at hz; rcases hz with rfl | rfl <;> rfl) (by decide) (by unfold maxLen; omega) (by omega) (by have := HW.out.size; simp; omega) _ rfl ?_; intro g cap w1 hown hgrow hat hlt; rw [HC.out] at hown; have HO2 := Lib.hid hown; have HB2 := Lib.hid ((HW.out.trans ((((Below.refl _ wr).drew).alloc (Nat.le_refl _) _).mono HW.out.size)).grown hgrow (Nat.le_trans HW.out.size (by simp)) (fun q hq => (HO.out.lt q hq).1)); clear hown hgrow hat)
          all_goals
            clear e1 e2
            go_wp2
            go_roundw
            case rel => exact ⟨i + 1, by omega, by go_num, HO2, HS2, HB2⟩
            case measure => simp [intOf]; omega
    · obtain rfl : i = n := by omega
      have HT : Hid (l.take i = l) := Lib.hid (List.take_of_length_le (by rw [LN.out]; exact Nat.le_refl _))
      rw [HT.out] at HO HS
      go_wp2
      go_returns
      exact ⟨_, _, rfl, HW.out, .inl ⟨HS.out, rfl, HO.out⟩⟩
end Go.Proofs.Ythjpnnggghfepaa
