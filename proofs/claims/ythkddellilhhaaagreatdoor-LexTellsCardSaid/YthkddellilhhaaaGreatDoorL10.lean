/- lex: Right, text. -/
import Derived.Test.YthkddellilhhaaaGreatDoorL9
namespace Go.Proofs.YthkddellilhhaaaGreatDoor
set_option linter.unusedVariables false
set_option linter.unusedSimpArgs false
open Go.ChangeShapes Go.WideShapes Go.ChangeAt Go.RowKit
set_option maxHeartbeats 2000000 in
theorem right_any (a1 : Int) (a2 : List UInt8) (a3 : Int) (w : World) (hT : Tx w) (h0 : 0 ≤ a1) (h1 : a1 ≤ 255) (hs : a2.length ≤ maxLen) :
    Calls Tryz.prog 7 #[.agg #[.int .u8 a1, .string ⟨a2.toArray⟩, .int .i64 a3]] w fun e w' => e = .returned (.bool (rightT (a1, a2, a3))) ∧ Below w.heap.size w w' := by
  obtain ⟨r, hr⟩ : ∃ r, rightT (a1, a2, a3) = r := ⟨_, rfl⟩
  have hri : r = true ↔ ((a1 = 1 ∧ a3 = 0 ∧ Lx.nameOk a2 = true) ∨ (a1 = 2 ∧ a2 = []) ∨ (a1 = 3 ∧ a2 = [] ∧ dok a3 = true) ∨ (a1 = 4 ∧ a3 = 0 ∧ a2.length = 1 ∧ a2.all Lx.mrk = true)) := by rw [← hr]; unfold rightT; rw [decide_eq_true_iff]
  rw [hr]
  clear hr
  have HN := Lib.hid (fun W => name_any ⟨a2.toArray⟩ W (by simpa [ByteArray.size] using hs))
  rw [show (⟨a2.toArray⟩ : ByteArray).data.toList = a2 from rfl] at HN
  have HRI := Lib.hid hri
  clear hri
  obtain ⟨b, hb⟩ : ∃ z, w.heap.size = z := ⟨_, rfl⟩
  obtain ⟨w1, hw1⟩ : ∃ z, w.alloc (.cells #[.int .u8 a1, .string ⟨a2.toArray⟩, .int .i64 a3] 27) = z := ⟨_, rfl⟩
  have KA : Below w.heap.size w w1 := by rw [← hw1]; exact (Below.refl _ w).alloc (Nat.le_refl _) _
  have XB : w1.heap[b]? = some (.cells #[.int .u8 a1, .string ⟨a2.toArray⟩, .int .i64 a3] 27 (0, 0)) := by rw [← hw1, ← hb, al_new]
  have HKA := Lib.hid KA
  have HTX := Lib.hid (hT.keep KA)
  have e0 := cell_blk XB 0
  have e1 := cell_blk XB 1
  have e2 := cell_blk XB 2
  have HXB := Lib.hid XB
  have hsz : ((⟨a2.toArray⟩ : ByteArray).size : Int) = (a2.length : Int) := by simp [ByteArray.size]
  have HSZ := Lib.hid hsz
  clear KA hT XB hs hsz
  by_cases k1 : a1 = 1
  · subst k1
    obtain ⟨q, hq⟩ : ∃ q, Lx.nameOk a2 = q := ⟨_, rfl⟩
    rw [hq] at HN
    by_cases z : a3 = 0
    · subst z
      obtain rfl : r = q := by
        rw [Bool.eq_iff_iff, HRI.out, hq]; simp
      clear hq
      go_enter Tryz.func7, Tryz.ntmps7
      go_wp2_with (first | ((with_reducible refine (HN.out _).mono ?_); rintro e w2 ⟨rfl, rfl⟩))
      go_returns
      exact ⟨rfl, by first | exact HKA.out | (rw [← hb]; exact HKA.out)⟩
    · have z2 : (a3 == 0) = false := by simp [z]
      obtain rfl : r = false := by
        cases r
        · rfl
        · have := HRI.out.1 rfl
          simp at this
          exact absurd this.1 z
      clear hq
      go_enter Tryz.func7, Tryz.ntmps7
      go_wp2
      go_returns
      exact ⟨rfl, by first | exact HKA.out | (rw [← hb]; exact HKA.out)⟩
  · have k1' : (a1 == 1) = false := by simp [k1]
    by_cases k2 : a1 = 2
    · subst k2
      cases a2 with
      | nil =>
        obtain rfl : r = true := HRI.out.2 (.inr (.inl ⟨rfl, rfl⟩))
        go_enter Tryz.func7, Tryz.ntmps7
        go_wp2
        go_returns
        exact ⟨rfl, by first | exact HKA.out | (rw [← hb]; exact HKA.out)⟩
      | cons c t =>
        obtain rfl : r = false := by
          cases r
          · rfl
          · have := HRI.out.1 rfl
            simp at this
        have ne : ¬ (⟨(c :: t).toArray⟩ : ByteArray).toList = [] := by rw [ByteArray.toList_eq]; simp
        go_enter Tryz.func7, Tryz.ntmps7
        go_wp2
        go_returns
        exact ⟨rfl, by first | exact HKA.out | (rw [← hb]; exact HKA.out)⟩
    · have k2' : (a1 == 2) = false := by simp [k2]
      by_cases k3 : a1 = 3
      · subst k3
        obtain ⟨q, hq⟩ : ∃ q, dok a3 = q := ⟨_, rfl⟩
        have HD : Hid (∀ W, Tx W → Calls Tryz.prog 18 #[.int .i64 a3] W fun e w' => ∃ (s : ByteArray) (er : Int), e = .returned (.tuple #[.string s, .int .i64 er]) ∧ Hid (er = if q = true then 0 else 30) ∧ Below W.heap.size W w') := Lib.hid (fun W h => by
          cases q
          · exact (dtext_no a3 W hq).mono fun e w' ⟨he, hw⟩ => ⟨_, _, he, Lib.hid rfl, hw⟩
          · exact (dtext_ok a3 W h hq).mono fun e w' ⟨he, hw⟩ => ⟨_, _, he, Lib.hid rfl, hw⟩)
        have HQ := Lib.hid hq
        clear hq
        cases a2 with
        | nil =>
          obtain rfl : r = q := by
            rw [Bool.eq_iff_iff, HRI.out, HQ.out]; simp
          go_enter Tryz.func7, Tryz.ntmps7
          go_wp2_with fail
          (with_reducible refine (HD.out _ HTX.out).mono ?_)
          rintro e w2 ⟨sx, er, rfl, HER, k⟩
          have XB2 := blk_keep HXB.out k
          have HF := Lib.hid (HKA.out.trans (k.mono HKA.out.size))
          clear e0 e1 e2 k
          have e0 := cell_blk XB2 0
          have e1 := cell_blk XB2 1
          have e2 := cell_blk XB2 2
          clear XB2
          cases r
          · obtain rfl : er = 30 := HER.out
            go_wp2
            go_returns
            exact ⟨rfl, HF.out⟩
          · obtain rfl : er = 0 := HER.out
            go_wp2
            go_returns
            exact ⟨rfl, HF.out⟩
        | cons c t =>
          obtain rfl : r = false := by
            cases r
            · rfl
            · have := HRI.out.1 rfl
              simp at this
          have ne : ¬ (⟨(c :: t).toArray⟩ : ByteArray).toList = [] := by rw [ByteArray.toList_eq]; simp
          go_enter Tryz.func7, Tryz.ntmps7
          go_wp2_with fail
          (with_reducible refine (HD.out _ HTX.out).mono ?_)
          rintro e w2 ⟨sx, er, rfl, HER, k⟩
          have XB2 := blk_keep HXB.out k
          have HF := Lib.hid (HKA.out.trans (k.mono HKA.out.size))
          clear e0 e1 e2 k
          have e0 := cell_blk XB2 0
          have e1 := cell_blk XB2 1
          have e2 := cell_blk XB2 2
          clear XB2
          go_wp2
          go_returns
          exact ⟨rfl, HF.out⟩
      · have k3' : (a1 == 3) = false := by simp [k3]
        by_cases k4 : a1 = 4
        · subst k4
          by_cases z : a3 = 0
          · subst z
            by_cases y : a2.length = 1
            · obtain ⟨c, rfl⟩ : ∃ c, a2 = [c] := by
                match a2, y with
                | [c], _ => exact ⟨c, rfl⟩
              have HC := Lib.hid (fun W => Tryz.strings_Contains_one ⟨#[40, 41, 44, 61, 58, 91, 93]⟩ c W)
              rw [show (⟨#[40, 41, 44, 61, 58, 91, 93]⟩ : ByteArray).data.toList = [40, 41, 44, 61, 58, 91, 93] from rfl] at HC
              have y2 : (((⟨[c].toArray⟩ : ByteArray).size : Int) == 1) = true := rfl
              obtain rfl : r = decide (0 ≤ Lib.indexByte [40, 41, 44, 61, 58, 91, 93] c) := by
                rw [Bool.eq_iff_iff, HRI.out, decide_eq_true_iff, idx_marks]; simp
              go_enter Tryz.func7, Tryz.ntmps7
              go_wp2_with (first | ((with_reducible refine (HC.out _).mono ?_); rintro e w2 ⟨rfl, rfl⟩))
              go_returns
              exact ⟨rfl, by first | exact HKA.out | (rw [← hb]; exact HKA.out)⟩
            · have y2 : (((⟨a2.toArray⟩ : ByteArray).size : Int) == 1) = false := by rw [HSZ.out]; simp; omega
              obtain rfl : r = false := by
                cases r
                · rfl
                · have := HRI.out.1 rfl
                  simp at this
                  exact absurd this.1 y
              go_enter Tryz.func7, Tryz.ntmps7
              go_wp2
              go_returns
              exact ⟨rfl, by first | exact HKA.out | (rw [← hb]; exact HKA.out)⟩
          · have z2 : (a3 == 0) = false := by simp [z]
            obtain rfl : r = false := by
              cases r
              · rfl
              · have := HRI.out.1 rfl
                simp at this
                exact absurd this.1 z
            go_enter Tryz.func7, Tryz.ntmps7
            go_wp2
            go_returns
            exact ⟨rfl, by first | exact HKA.out | (rw [← hb]; exact HKA.out)⟩
        · have k4' : (a1 == 4) = false := by simp [k4]
          obtain rfl : r = false := by
            cases r
            · rfl
            · have := HRI.out.1 rfl
              simp [k1, k2, k3, k4] at this
          go_enter Tryz.func7, Tryz.ntmps7
          go_wp2
          go_returns
          exact ⟨rfl, by first | exact HKA.out | (rw [← hb]; exact HKA.out)⟩

end Go.Proofs.YthkddellilhhaaaGreatDoor
