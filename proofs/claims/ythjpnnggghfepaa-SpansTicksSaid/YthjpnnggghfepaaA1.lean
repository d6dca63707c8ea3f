/- Contracts: Anew. -/
import Derived.Test.YthjpnnggghfepaaU4
import Derived.Test.YthjpnnggghfepaaU3
import Derived.Laws.CopyOwn
namespace Go.Proofs.Ythjpnnggghfepaa
set_option linter.unusedVariables false
set_option linter.unusedSimpArgs false
open Go.ChangeShapes Go.WideShapes Go.ChangeAt Go.RowKit
/-- A copy of elements of any size, from the head of a row on. -/
theorem run_copy_wide (w : World) (dT sT ty elem : TypeId) (S g dLen dCap : Nat) (a : Addr) (sLen sCap : Nat) (cur : Array Value) (t : TypeId) (cs : List Value)
    (hu : Try.prog.underlying dT = some (.slice elem)) (hs : (Try.prog.info? elem).map (·.size) = some S)
    (hg : w.heap[g]? = some (.cells cur t (0, 0))) (hn : cs.length = Nat.min sLen dLen * S)
    (hsrc : ∀ j v, cs[j]? = some v → w.cell? (a.add j) = some v) (hfit : cs.length ≤ cur.size) (h1 : ∀ v ∈ cs, v.oneCell' = true) :
    (Builtin.copy_ #[dT, sT] ty #[.slice (some ⟨g, 0, none⟩) dLen dCap, .slice (some a) sLen sCap]).run Try.prog w =
      .ok (goInt (Nat.min sLen dLen)) (w.setRow g (cs ++ cur.toList.drop cs.length).toArray) := by
  have hl := run_loadCells_list (P := Try.prog) w a cs hsrc
  have hst := run_storeCells_at Try.prog g 0 t cs 0 cur w hg (by simpa using hfit) h1
  cases hq : Try.prog.info? elem with
  | none => simp [hq] at hs
  | some i =>
    have hi : i.size = S := by simpa [hq] using hs
    simp [Builtin.copy_, run_underlying hu, Builtin.lenOf, Builtin.firstCells, sizeOf, typeInfo, hq, hi, ← hn, hl, hst]
theorem run_copy_void (w : World) (dT sT ty elem : TypeId) (S : Nat) (d : Option Addr) (dCap sCap : Nat) (hu : Try.prog.underlying dT = some (.slice elem)) (hs : (Try.prog.info? elem).map (·.size) = some S) :
    (Builtin.copy_ #[dT, sT] ty #[.slice d 0 dCap, .slice none 0 sCap]).run Try.prog w = .ok (goInt 0) w := by
  cases hq : Try.prog.info? elem with
  | none => simp [hq] at hs
  | some i => cases d <;> simp [Builtin.copy_, run_underlying hu, Builtin.lenOf, Builtin.firstCells, sizeOf, typeInfo, hq, storeCells]
theorem size35 : (Try.prog.info? 35).map (·.size) = some 2 := by kernel_rfl
set_option maxHeartbeats 1000000 in
theorem anew_any (ao : Option Addr) (n c : Nat) (l : List Sp) (hn : n ≤ 1000000) (w : World) (hl : SpAt w ao n c l) :
    Calls Try.prog 10 #[.slice ao n c] w fun e w' => ∃ v, e = .returned v ∧ w'.ownsRow w.heap.size 35 2 v n (spCells l) ∧ Below w.heap.size w w' := by
  obtain ⟨i0, hi, hz0, hz1, hz2⟩ := info_parts info35
  have LN := Lib.hid hl.len
  have HL := Lib.hid hl
  clear hl
  go_enter Try.func10, Try.ntmps10
  go_upto_region 2 with (at_make; refine wpList_make_full _ rfl _ _ 22 rfl w.heap.size 35 i0 (.agg #[.int .i64 0, .int .i64 0]) 2 Try.underlying22 hi hz0 hz1 .i64 .i64 _ _ n rfl rfl rfl rfl (by rw [hz2]; omega) (by unfold maxLen; omega) (Nat.le_refl _) ?_; intro w1 hown hgrow; have HO := Lib.hid hown; have HB := Lib.hid ((Below.refl _ w).grown hgrow (Nat.le_refl _) (by intro k hk; cases hk)); clear hown hgrow)
  obtain ⟨g, hg⟩ : ∃ g, w.heap.size = g := ⟨_, rfl⟩
  have HO2 := HO.out
  rw [hg] at HO2
  obtain ⟨cur, hc1, hc2⟩ : ∃ cur : Array Value, w1.heap[g]? = some (.cells cur 35 (0, 0)) ∧ cur.size = n * 2 := by
    rcases HO2.2 with ⟨e, _⟩ | ⟨g', cap, cur, e, h2, h3, h4, h5, h6, h7⟩
    · cases e
    · cases e; exact ⟨cur, h3, h6⟩
  have HG := Lib.hid hg
  rw [hg]
  have C1 := Lib.hid hc1
  have C2 := Lib.hid hc2
  clear HO2 hc1 hc2 hg hi hz0 hz1 hz2
  have done : ∀ W : World, W.heap[g]? = some (.cells (spCells l).toArray 35 (0, 0)) → W.ownsRow w.heap.size 35 2 (.slice (some ⟨g, 0, none⟩) n n) n (spCells l) := fun W hW => by
    have e : (spCells l).length = n * 2 := by rw [spCells_length, LN.out]
    exact ⟨e, .inr ⟨g, n, _, rfl, by rw [HG.out]; exact Nat.le_refl _, hW, Nat.le_refl _, by unfold maxLen; omega, by simpa using e, by simp [← e]⟩⟩
  have HD := Lib.hid done
  clear done
  cases ao with
  | none =>
    obtain ⟨rfl, rfl⟩ := HL.out.bare rfl
    have hl0 : l = [] := List.eq_nil_of_length_eq_zero LN.out
    have HF : Hid (w1.ownsRow w.heap.size 35 2 (.slice (some ⟨g, 0, none⟩) 0 0) 0 (spCells l)) := Lib.hid (HD.out w1 (by
      have e : cur = #[] := Array.eq_empty_of_size_eq_zero (by rw [C2.out])
      rw [C1.out, e, hl0]; rfl))
    clear hl0
    have hcp := run_copy_void w1 22 22 3 35 2 (some ⟨g, 0, none⟩) 0 0 Try.underlying22 size35
    go_wp2
    go_returns
    exact ⟨_, rfl, HF.out, HB.out⟩
  | some a =>
    have e : (spCells l).length = n * 2 := by rw [spCells_length, LN.out]
    have RN := Lib.hid (run_copy_wide w1 22 22 3 35 2 g n n a n c cur 35 (spCells l) Try.underlying22 size35 C1.out (by rw [e]; simp) (fun j u hu => cell_keep (sp_all' HL.out j u hu) HB.out) (by rw [C2.out, e]; exact Nat.le_refl _) (spCells_one l))
    have HW : Hid ((w1.setRow g (spCells l ++ cur.toList.drop (spCells l).length).toArray).heap[g]? = some (.cells (spCells l).toArray 35 (0, 0))) := Lib.hid (by
      have q := setRow_heap w1 g cur (spCells l ++ cur.toList.drop (spCells l).length).toArray 35 _ C1.out
      rw [q]
      have : cur.toList.drop (spCells l).length = [] := List.drop_eq_nil_of_le (by rw [e, Array.length_toList, C2.out]; exact Nat.le_refl _)
      rw [this, List.append_nil])
    have HF := Lib.hid (HD.out _ HW.out)
    have HB2 := Lib.hid (below_setRow HB.out (by rw [HG.out]; exact Nat.le_refl _) (spCells l ++ cur.toList.drop (spCells l).length).toArray (g := g))
    have hcp := RN.out
    obtain ⟨W2, hW2⟩ : ∃ W2, w1.setRow g (spCells l ++ cur.toList.drop (spCells l).length).toArray = W2 := ⟨_, rfl⟩
    rw [hW2] at hcp HF HB2
    clear e RN HW hW2
    go_wp2
    go_returns
    exact ⟨_, rfl, HF.out, HB2.out⟩
end Go.Proofs.Ythjpnnggghfepaa
