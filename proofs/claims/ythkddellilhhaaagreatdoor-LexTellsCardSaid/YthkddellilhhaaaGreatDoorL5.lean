/- lex: dates; the first word. -/
import Derived.Test.YthkddellilhhaaaGreatDoorL4
namespace Go.Proofs.YthkddellilhhaaaGreatDoor
set_option linter.unusedVariables false
set_option linter.unusedSimpArgs false
open Go.ChangeShapes Go.WideShapes Go.ChangeAt Go.RowKit
def dayT (s : List UInt8) : Option (Lx.Tk × Nat) := match readOf (s.take (Lx.run Lx.dlt s)) with
  | some d => some ((3, [], d), 1 + Lx.run Lx.dlt s)
  | none => none
set_option maxHeartbeats 1000000 in
theorem day_any (s : ByteArray) (w : World) (hT : Tx w) (h0 : 0 < s.size) (hs : s.size ≤ 1048576) :
    Calls Tryz.prog 27 #[.string s] w fun e w' => e = .returned (fstV (dayT (s.data.toList.drop 1))) ∧ Below w.heap.size w w' := by
  have HE : Hid ((s.extract 1 s.size).data.toList = s.data.toList.drop 1) := Lib.hid (by rw [Lib.extract_data, List.take_of_length_le]; rw [List.length_drop, ← Lib.size_eq]; omega)
  have hes : (s.extract 1 s.size).size = s.size - 1 := by rw [Lib.size_eq, HE.out, List.length_drop, ← Lib.size_eq]
  obtain ⟨k, hk⟩ : ∃ k, Lx.run Lx.dlt (s.data.toList.drop 1) = k := ⟨_, rfl⟩
  have hkl := Lx.run_le Lx.dlt (s.data.toList.drop 1)
  rw [hk, List.length_drop, ← Lib.size_eq] at hkl
  have HR := Lib.hid (fun W => runT (s.extract 1 s.size) W (by unfold maxLen; omega))
  rw [HE.out, hk] at HR
  obtain ⟨n, hn⟩ : ∃ n : Nat, 1 + k = n := ⟨_, rfl⟩
  have HF : Hid ((s.extract 1 n).data.toList = (s.data.toList.drop 1).take k) := Lib.hid (by rw [Lib.extract_data]; congr 1; omega)
  obtain ⟨b, hb⟩ : ∃ z, w.heap.size = z := ⟨_, rfl⟩
  obtain ⟨w1, hw1⟩ : ∃ z, w.alloc (.cells #[.int .u8 0, .string ⟨#[]⟩, .int .i64 0] 27) = z := ⟨_, rfl⟩
  have KA : Below w.heap.size w w1 := by rw [← hw1]; exact (Below.refl _ w).alloc (Nat.le_refl _) _
  have XB : Hid (w1.heap[b]? = some (.cells #[.int .u8 0, .string ⟨#[]⟩, .int .i64 0] 27 (0, 0))) := Lib.hid (by rw [← hw1, ← hb, al_new])
  have HKA := Lib.hid KA
  have HBL : Hid (w.heap.size ≤ b) := Lib.hid (by omega)
  have HP := Lib.hid (read_any (s.extract 1 n) w1 (hT.tabs.1.keep HKA.out))
  rw [HF.out] at HP
  obtain ⟨R, hR⟩ : ∃ R, dayT (s.data.toList.drop 1) = R := ⟨_, rfl⟩
  have HDT : Hid ((readOf ((s.data.toList.drop 1).take k) = none → dayT (s.data.toList.drop 1) = none) ∧ ∀ v, readOf ((s.data.toList.drop 1).take k) = some v → dayT (s.data.toList.drop 1) = some ((3, [], v), n)) := Lib.hid (by
    unfold dayT
    rw [hk, hn]
    exact ⟨fun h => by rw [h], fun v h => by rw [h]⟩)
  rw [hR] at HDT ⊢
  have hn2 : (1 : Int) + (k : Int) = (n : Int) := by omega
  have n1 : (1 : Int) ≤ (n : Int) := by omega
  have n2 : (n : Int) ≤ (s.size : Int) := by omega
  have s1 : (s.size : Int) ≤ 1048576 := by omega
  have s0 : (1 : Int) ≤ (s.size : Int) := by omega
  have k0 : (0 : Int) ≤ (k : Int) := by omega
  have k1 : (k : Int) ≤ 1048576 := by omega
  clear hR hk hn hes hkl KA hT
  cases hr : readOf ((s.data.toList.drop 1).take k) with
  | none =>
    obtain rfl : R = none := HDT.out.1 hr
    rw [hr] at HP
    have HP : Hid (Calls Tryz.prog 48 #[.string (s.extract 1 n)] w1 fun e w' => e = .returned (.tuple #[.int .i64 0, .int .i64 30]) ∧ Below w1.heap.size w1 w') := HP
    clear hr HDT
    go_enter Tryz.func27, Tryz.ntmps27
    go_wp2_with (first | ((with_reducible refine (HR.out _).mono ?_); rintro e w' ⟨rfl, rfl⟩) | ((with_reducible refine HP.out.mono ?_); rintro e w2 ⟨rfl, q⟩; have XB2 := blk_keep XB.out q; have r0 := cell_blk XB2 0; have r1 := cell_blk XB2 1; have r2 := cell_blk XB2 2; have f0 := blk_free XB2 0; have f1 := blk_free XB2 1; have f2 := blk_free XB2 2))
    have XE := box_set XB2 (.int .u8 0) (.string ⟨#[]⟩) (.int .i64 0)
    have KE := box_end HKA.out HBL.out (.int .u8 0) (.string ⟨#[]⟩) (.int .i64 0) q
    obtain ⟨wf, hwf⟩ : ∃ z, (((w2.setCell ⟨b, 0, none⟩ (.int .u8 0)).setCell ⟨b, 1, none⟩ (.string ⟨#[]⟩)).setCell ⟨b, 2, none⟩ (.int .i64 0)) = z := ⟨_, rfl⟩
    rw [hwf] at XE KE ⊢
    clear r0 r1 r2 f0 f1 f2 hwf
    have r0 := cell_blk XE 0
    have r1 := cell_blk XE 1
    have r2 := cell_blk XE 2
    exact bodyPost_ret (v := .tuple #[.agg #[.int .u8 0, .string ⟨#[]⟩, .int .i64 0], .int .i64 0]) (by simp [results, Tryz.results27, go_sem, r0, r1, r2]) rfl ⟨rfl, KE⟩
  | some v =>
    obtain rfl : R = some ((3, [], v), n) := HDT.out.2 v hr
    rw [hr] at HP
    have HP : Hid (Calls Tryz.prog 48 #[.string (s.extract 1 n)] w1 fun e w' => e = .returned (.tuple #[.int .i64 v, .int .i64 0]) ∧ Below w1.heap.size w1 w') := HP
    clear hr HDT
    go_enter Tryz.func27, Tryz.ntmps27
    go_wp2_with (first | ((with_reducible refine (HR.out _).mono ?_); rintro e w' ⟨rfl, rfl⟩) | ((with_reducible refine HP.out.mono ?_); rintro e w2 ⟨rfl, q⟩; have XB2 := blk_keep XB.out q; have r0 := cell_blk XB2 0; have r1 := cell_blk XB2 1; have r2 := cell_blk XB2 2; have f0 := blk_free XB2 0; have f1 := blk_free XB2 1; have f2 := blk_free XB2 2))
    have XE := box_set XB2 (.int .u8 3) (.string ⟨#[]⟩) (.int .i64 v)
    have KE := box_end HKA.out HBL.out (.int .u8 3) (.string ⟨#[]⟩) (.int .i64 v) q
    obtain ⟨wf, hwf⟩ : ∃ z, (((w2.setCell ⟨b, 0, none⟩ (.int .u8 3)).setCell ⟨b, 1, none⟩ (.string ⟨#[]⟩)).setCell ⟨b, 2, none⟩ (.int .i64 v)) = z := ⟨_, rfl⟩
    rw [hwf] at XE KE ⊢
    clear r0 r1 r2 f0 f1 f2 hwf
    have r0 := cell_blk XE 0
    have r1 := cell_blk XE 1
    have r2 := cell_blk XE 2
    exact bodyPost_ret (v := .tuple #[.agg #[.int .u8 3, .string ⟨#[]⟩, .int .i64 v], .int .i64 (n : Int)]) (by simp [results, Tryz.results27, go_sem, r0, r1, r2]) rfl ⟨rfl, KE⟩

theorem idx_mem : ∀ (l : List UInt8) (c : UInt8), 0 ≤ Lib.indexByte l c ↔ c ∈ l
  | [], c => by simp [Lib.indexByte]
  | b :: l, c => by
    have ih := idx_mem l c
    have ge := Lib.indexByte_ge l c
    unfold Lib.indexByte
    by_cases h : b = c
    · subst h; simp
    · have h1 : (b == c) = false := by simp [h]
      rw [h1, if_neg (by decide)]
      by_cases h2 : Lib.indexByte l c = -1
      · have h3 : (Lib.indexByte l c == -1) = true := by simp [h2]
        rw [h3, if_pos rfl]
        have : ¬ c ∈ l := fun z => by have := ih.2 z; omega
        simp [this, Ne.symm h]
      · have h3 : (Lib.indexByte l c == -1) = false := by simp [h2]
        rw [h3, if_neg (by decide)]
        have : c ∈ l := ih.1 (by omega)
        simp [this]; omega
theorem idx_marks (c : UInt8) : 0 ≤ Lib.indexByte [40, 41, 44, 61, 58, 91, 93] c ↔ Lx.mrk c = true := by
  rw [idx_mem]
  unfold Lx.mrk
  rw [decide_eq_true_iff]
  have e : ∀ k : UInt8, (c = k) ↔ c.toNat = k.toNat := fun k => ⟨fun h => by rw [h], fun h => UInt8.toNat_inj.1 h⟩
  simp only [List.mem_cons, List.not_mem_nil, or_false, e]
  have h0 : (40 : UInt8).toNat = 40 := rfl
  have h1 : (41 : UInt8).toNat = 41 := rfl
  have h2 : (44 : UInt8).toNat = 44 := rfl
  have h3 : (61 : UInt8).toNat = 61 := rfl
  have h4 : (58 : UInt8).toNat = 58 := rfl
  have h5 : (91 : UInt8).toNat = 91 := rfl
  have h6 : (93 : UInt8).toNat = 93 := rfl
  rw [h0, h1, h2, h3, h4, h5, h6]
end Go.Proofs.YthkddellilhhaaaGreatDoor
