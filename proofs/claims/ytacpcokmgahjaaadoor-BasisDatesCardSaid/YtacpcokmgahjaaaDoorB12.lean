/- BasisNone: the walk. -/
import Derived.Test.YtacpcokmgahjaaaDoorB11
namespace Go.Proofs.YtacpcokmgahjaaaDoor
set_option linter.unusedVariables false
set_option linter.unusedSimpArgs false
open Go.ChangeShapes Go.WideShapes Go.ChangeAt Go.RowKit
/-- The two calendars that are none. -/
structure Two2 (w0 w : World) (cb sl : Nat) : Prop where
  bw : Below w0.heap.size w0 w
  c : w.heap[cb]? = some (.cells #[.pointer none, .pointer none] 59 (0, 0))
  s : w.heap[sl]? = some (.cells #[.pointer none, .pointer (some ⟨cb, 0, none⟩)] 22 (0, 0))
theorem Two2.keep {w0 w w' : World} {cb sl : Nat} (h : Two2 w0 w cb sl) (k : Below w.heap.size w w') : Two2 w0 w' cb sl :=
  ⟨h.bw.trans (k.mono h.bw.size), (k.block cb (Array.getElem?_eq_some_iff.1 h.c).1).trans h.c, (k.block sl (Array.getElem?_eq_some_iff.1 h.s).1).trans h.s⟩
def two2p (cb j : Nat) : Value := if j = 0 then .pointer none else .pointer (some ⟨cb, 0, none⟩)
theorem two2_false {w0 w : World} {cb sl j : Nat} (h : Two2 w0 w cb sl) : Calls Tryd.prog 21 #[two2p cb j] w fun e w' => e = .returned (.bool false) ∧ w = w' := by
  unfold two2p
  split
  · exact right_nil w
  · exact right_zero w cb _ h.c
set_option maxRecDepth 8000 in
set_option maxHeartbeats 4000000 in
theorem basisNone_walk (s : ByteArray) (w : World) (hT : Tab w) :
    Calls Tryd.prog 7 #[.string s] w fun e w' => e = .returned (.bool true) ∧ Below w.heap.size w w' := by
  have HT := Lib.hid hT
  clear hT
  obtain ⟨cb, hcb⟩ : ∃ b, w.heap.size = b := ⟨_, rfl⟩
  obtain ⟨wb, hwb⟩ : ∃ wb, (w.alloc (.cells #[.pointer none, .pointer none] 59)).alloc (.cells #[.pointer none, .pointer (some ⟨cb, 0, none⟩)] 22) = wb := ⟨_, rfl⟩
  have H2 : Hid (Two2 w wb cb (cb + 1)) := Lib.hid ⟨by rw [← hwb]; exact ((Below.refl _ w).alloc (Nat.le_refl _) _).alloc (by simp) _, by rw [← hwb, al_old _ _ (by simp; omega), ← hcb, al_new], by rw [← hwb, show cb + 1 = (w.alloc (.cells #[.pointer none, .pointer none] 59)).heap.size by simp; omega, al_new]⟩
  go_enter Tryd.func7, Tryd.ntmps7
  go_wp2
  clear hwb hcb
  go_loopw [4, 5, 6, 7, 8, 13] (fun s4 s5 s6 s7 s8 ii wr => ∃ j : Nat, j ≤ 2 ∧ ii = .int .i64 j ∧ Hid (Two2 w wr cb (cb + 1))) (fun s4 s5 s6 s7 s8 ii _ => 2 - (intOf ii).toNat)
  case atStart => exact ⟨0, Nat.zero_le _, rfl, H2⟩
  case round =>
    obtain ⟨j, hj, rfl, H2⟩ := hrel
    have i0 : (0 : Int) ≤ (j : Int) := by omega
    by_cases jlt : j < 2
    · have i1 : (j : Int) < 2 := by omega
      have e4 : wr.cell? ⟨cb + 1, j, none⟩ = some (two2p cb j) := by
        rw [cell_blk H2.out.s]
        match j, jlt with
        | 0, _ => rfl
        | 1, _ => rfl
      obtain ⟨p, hp⟩ : ∃ p, two2p cb j = p := ⟨_, rfl⟩
      have HP : Hid (∀ W, Two2 w W cb (cb + 1) → Calls Tryd.prog 21 #[p] W fun e w' => e = .returned (.bool false) ∧ W = w') := Lib.hid (fun W h => hp ▸ two2_false h)
      rw [hp] at e4
      have HF : Hid (∀ x : ByteArray, ∀ W, Two2 w W cb (cb + 1) → Calls Tryd.prog 11 #[p, .string x] W fun e w' => e = .returned (.tuple #[.agg #[.int .i64 0, .int .i64 0, .slice none 0 0, .slice none 0 0], .int .i64 1]) ∧ Below W.heap.size W w') := Lib.hid (fun x W h => form_none W p x (fun V hV => HP.out V (h.keep hV)))
      have HSH : Hid (p = .pointer none ∨ p = .pointer (some ⟨cb, 0, none⟩)) := Lib.hid (by
        rw [← hp]; unfold two2p; split
        · exact .inl rfl
        · exact .inr rfl)
      clear hp
      go_wp2_with fail
      (with_reducible refine (HF.out s _ H2.out).mono ?_)
      rintro e v1 ⟨rfl, q1⟩
      have H2 := Lib.hid (H2.out.keep q1)
      clear q1 e4
      go_upto_region 5 with fail
      have KA := (Below.refl v1.heap.size v1).alloc (Nat.le_refl _) (.cells #[.int .i64 0, .int .i64 0, .slice none 0 0, .slice none 0 0] 29)
      have H2 := Lib.hid (H2.out.keep KA)
      have hb1 := al_new v1 (.cells #[.int .i64 0, .int .i64 0, .slice none 0 0, .slice none 0 0] 29)
      obtain ⟨b1, hbb⟩ : ∃ q, v1.heap.size = q := ⟨_, rfl⟩
      rw [hbb] at hb1 ⊢
      generalize v1.alloc (.cells #[.int .i64 0, .int .i64 0, .slice none 0 0, .slice none 0 0] 29) = v2 at H2 hb1 ⊢
      have HB1 := Lib.hid hb1
      clear hbb KA hb1
      go_wp2_with fail
      (with_reducible refine (HF.out ⟨#[100, 97, 121]⟩ _ H2.out).mono ?_)
      rintro e v3 ⟨rfl, q1⟩
      have H2 := Lib.hid (H2.out.keep q1)
      have HB1 := Lib.hid ((q1.block b1 (Array.getElem?_eq_some_iff.1 HB1.out).1).trans HB1.out)
      clear q1
      go_upto_region 6 with fail
      have KA := (Below.refl v3.heap.size v3).alloc (Nat.le_refl _) (.cells #[.int .i64 0, .int .i64 0, .slice none 0 0, .slice none 0 0] 29)
      have H2 := Lib.hid (H2.out.keep KA)
      have HB1 := Lib.hid ((KA.block b1 (Array.getElem?_eq_some_iff.1 HB1.out).1).trans HB1.out)
      have hb2 := al_new v3 (.cells #[.int .i64 0, .int .i64 0, .slice none 0 0, .slice none 0 0] 29)
      obtain ⟨b2, hbb⟩ : ∃ q, v3.heap.size = q := ⟨_, rfl⟩
      rw [hbb] at hb2 ⊢
      generalize v3.alloc (.cells #[.int .i64 0, .int .i64 0, .slice none 0 0, .slice none 0 0] 29) = v4 at H2 HB1 hb2 ⊢
      have a1 := cell_blk HB1.out 1
      have a2 := cell_blk HB1.out 2
      have c1 := cell_blk hb2 1
      have c2 := cell_blk hb2 2
      have HM := Lib.hid (made_no v4 p (HP.out v4 H2.out))
      clear hbb KA hb2
      go_wp2_with fail
      (with_reducible refine HM.out.mono ?_)
      rintro e v5 ⟨rfl, rfl⟩
      clear HM a1 a2 c1 c2
      go_wp2
      go_roundw
      case rel => exact ⟨j + 1, by omega, by go_num, H2⟩
      case measure => simp [intOf]; omega
    · obtain rfl : j = 2 := by omega
      have HA := Lib.hid (awake_any wr (HT.out.keep H2.out.bw))
      go_wp2_with fail
      (with_reducible refine HA.out.mono ?_)
      rintro e v5 ⟨rfl, q⟩
      have HB := Lib.hid (H2.out.bw.trans (q.mono H2.out.bw.size))
      clear q HA
      go_wp2
      go_returns
      exact ⟨rfl, HB.out⟩
end Go.Proofs.YtacpcokmgahjaaaDoor
