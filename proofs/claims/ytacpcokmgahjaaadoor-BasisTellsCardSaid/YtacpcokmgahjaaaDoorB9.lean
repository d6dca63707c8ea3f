/- Contracts: Form of basis. -/
import Derived.Test.YtacpcokmgahjaaaDoorB8
namespace Go.Proofs.YtacpcokmgahjaaaDoor
set_option linter.unusedVariables false
set_option linter.unusedSimpArgs false
open Go.ChangeShapes Go.WideShapes Go.ChangeAt Go.RowKit
theorem monC_one {n k : Nat} : ∀ l ∈ monC n k, l.length = 1 := fun l hl => by
  obtain ⟨x, _, rfl⟩ := List.mem_map.1 hl
  rfl
theorem bC_one (i : Nat) : ∀ l ∈ bC i, l.length = 1 := fun l hl => by
  unfold bC at hl
  split at hl
  · rw [List.mem_singleton] at hl; rw [hl]; rfl
  · rw [List.mem_singleton] at hl; rw [hl]; rfl
  · rw [List.mem_singleton] at hl; rw [hl]; rfl
  · exact monC_one l hl
  · exact monC_one l hl
  · exact monC_one l hl
theorem bN_bd (i : Nat) : 1 ≤ bN i ∧ bN i ≤ 4800 := by
  match i with
  | 0 => exact ⟨by decide, by decide⟩
  | 1 => exact ⟨by decide, by decide⟩
  | 2 => exact ⟨by decide, by decide⟩
  | 3 => exact ⟨by decide, by decide⟩
  | 4 => exact ⟨by decide, by decide⟩
  | _ + 5 => exact ⟨by show 1 ≤ 400; decide, by show 400 ≤ 4800; decide⟩
theorem bP_bd (i : Nat) : 1 ≤ bP i ∧ bP i ≤ 146097 := by
  match i with
  | 0 => exact ⟨by decide, by decide⟩
  | 1 => exact ⟨by decide, by decide⟩
  | 2 => exact ⟨by decide, by decide⟩
  | _ + 3 => exact ⟨by show (1 : Int) ≤ 146097; decide, by show (146097 : Int) ≤ 146097; decide⟩
theorem fv_bas {w : World} {i h : Nat} (hc : CoAt w (some ⟨h, 0, none⟩) (bN i) (bN i) (bC i)) : Fv.At ⟨bP i, (bN i : Int), some ⟨h, 0, none⟩, bN i, bN i, none, 0, 0, bC i, []⟩ w := by
  have hp := bP_bd i
  have hn := bN_bd i
  exact ⟨(by show -9223372036854775808 ≤ bP i; omega), (by show bP i ≤ 9223372036854775807; omega), (by show -9223372036854775808 ≤ (bN i : Int); omega), (by show (bN i : Int) ≤ 9223372036854775807; omega), hc, ⟨rfl, Nat.le_refl _, Nat.zero_le _, fun _ => ⟨rfl, rfl⟩, fun h => absurd h (Nat.lt_irrefl _)⟩, ⟨fun l hl => by rw [bC_one i l hl]; decide, fun o ho => by cases ho⟩⟩
/-- What Form tells of a calendar that is none, or of no name. -/
def FormNo (x : Int) (w : World) (e : Ending) (w' : World) : Prop := e = .returned (.tuple #[.agg #[.int .i64 0, .int .i64 0, .slice none 0 0, .slice none 0 0], .int .i64 x]) ∧ Below w.heap.size w w'
set_option maxHeartbeats 1000000 in
theorem form_none (w : World) (p : Value) (s : ByteArray) (hr : ∀ W : World, Below w.heap.size w W → Calls Tryd.prog 21 #[p] W fun e w' => e = .returned (.bool false) ∧ W = w') :
    Calls Tryd.prog 11 #[p, .string s] w fun e w' => FormNo 1 w e w' := by
  obtain ⟨ro, hro⟩ : ∃ ro, w.heap.size = ro := ⟨_, rfl⟩
  obtain ⟨wa, hwa⟩ : ∃ wa, w.alloc (.cells #[.int .i64 0, .int .i64 0, .slice none 0 0, .slice none 0 0] 29) = wa := ⟨_, rfl⟩
  have HRO : Hid (wa.heap[ro]? = some (.cells #[.int .i64 0, .int .i64 0, .slice none 0 0, .slice none 0 0] 29 (0, 0))) := Lib.hid (by rw [← hwa, ← hro, al_new])
  have HBA : Hid (Below w.heap.size w wa) := Lib.hid (by rw [← hwa]; exact (Below.refl _ w).alloc (Nat.le_refl _) _)
  have HZA : Hid (wa.heap.size = ro + 1) := Lib.hid (by rw [← hwa, ← hro]; simp)
  have HRW := Lib.hid hro
  have HR := Lib.hid (hr wa HBA.out)
  clear hr
  go_enter Tryd.func11, Tryd.ntmps11
  go_wp2_with fail
  clear hwa hro
  (with_reducible refine HR.out.mono ?_)
  rintro e w2 ⟨rfl, rfl⟩
  have HR2 := HRO
  have r0 := cell_blk HR2.out 0
  have r1 := cell_blk HR2.out 1
  have r2 := cell_blk HR2.out 2
  have r3 := cell_blk HR2.out 3
  have f0 := blk_free HR2.out 0
  have f1 := blk_free HR2.out 1
  have f2 := blk_free HR2.out 2
  have f3 := blk_free HR2.out 3
  go_wp2_with fail
  have gf := grow_four wa ro (.int .i64 0) (.int .i64 0) (.slice none 0 0) (.slice none 0 0)
  have hrs := blk_four HR2.out (.int .i64 0) (.int .i64 0) (.slice none 0 0) (.slice none 0 0)
  generalize (((wa.setCell ⟨ro, 0, none⟩ (.int .i64 0)).setCell ⟨ro, 1, none⟩ (.int .i64 0)).setCell ⟨ro, 2, none⟩ (.slice none 0 0)).setCell ⟨ro, 3, none⟩ (.slice none 0 0) = wf at gf hrs ⊢
  clear r0 r1 r2 r3 f0 f1 f2 f3
  have r0 : wf.cell? ⟨ro, 0, none⟩ = some (.int .i64 0) := cell_blk hrs 0
  have r1 : wf.cell? ⟨ro, 1, none⟩ = some (.int .i64 0) := cell_blk hrs 1
  have r2 : wf.cell? ⟨ro, 2, none⟩ = some (.slice none 0 0) := cell_blk hrs 2
  have r3 : wf.cell? ⟨ro, 3, none⟩ = some (.slice none 0 0) := cell_blk hrs 3
  have hb := HBA.out.grown gf HBA.out.size (fun q z => by cases z; exact Nat.le_of_eq HRW.out)
  exact bodyPost_ret (v := .tuple #[.agg #[.int .i64 0, .int .i64 0, .slice none 0 0, .slice none 0 0], .int .i64 1]) (by simp [results, Tryd.results11, go_sem, r0, r1, r2, r3]) rfl ⟨rfl, hb⟩
set_option maxHeartbeats 2000000 in
theorem form_miss (w : World) (m c k g : Nat) (st : Nat → Bool) (n : Int) (s : ByteArray) (hs : ∀ j, j < 6 → ((nm j).toList == s.toList) = false) (hC : Cd w m c k g st n) :
    Calls Tryd.prog 11 #[.pointer (some ⟨c, 0, none⟩), .string s] w fun e w' => FormNo 80 w e w' := by
  have HS := Lib.hid hs
  obtain ⟨ro, hro⟩ : ∃ ro, w.heap.size = ro := ⟨_, rfl⟩
  obtain ⟨wa, hwa⟩ : ∃ wa, w.alloc (.cells #[.int .i64 0, .int .i64 0, .slice none 0 0, .slice none 0 0] 29) = wa := ⟨_, rfl⟩
  have HRO : Hid (wa.heap[ro]? = some (.cells #[.int .i64 0, .int .i64 0, .slice none 0 0, .slice none 0 0] 29 (0, 0))) := Lib.hid (by rw [← hwa, ← hro, al_new])
  have HBA : Hid (Below w.heap.size w wa) := Lib.hid (by rw [← hwa]; exact (Below.refl _ w).alloc (Nat.le_refl _) _)
  have HZA : Hid (wa.heap.size = ro + 1) := Lib.hid (by rw [← hwa, ← hro]; simp)
  have HRW := Lib.hid hro
  have HR := Lib.hid (right_yes wa c _ (hC.keep HBA.out).cb)
  clear hC hs
  go_enter Tryd.func11, Tryd.ntmps11
  go_wp2_with fail
  clear hwa hro
  (with_reducible refine HR.out.mono ?_)
  rintro e w2 ⟨rfl, rfl⟩
  go_wp2_with fail
  (with_reducible refine (names_any _).mono ?_)
  rintro e w1 ⟨rfl, hw1⟩
  obtain ⟨nb, hnb⟩ : ∃ nb, wa.heap.size = nb := ⟨_, rfl⟩
  have K1 : Hid (Below wa.heap.size wa w1) := Lib.hid (by rw [hw1]; exact (Below.refl _ wa).alloc (Nat.le_refl _) _)
  have HN1 : Hid (w1.heap[nb]? = some (.cells #[.string ⟨#[116, 105, 99, 107]⟩, .string ⟨#[100, 97, 121]⟩, .string ⟨#[119, 101, 101, 107]⟩, .string ⟨#[109, 111, 110, 116, 104]⟩, .string ⟨#[113, 117, 97, 114, 116, 101, 114]⟩, .string ⟨#[121, 101, 97, 114]⟩] 9 (0, 0))) := Lib.hid (by rw [hw1, ← hnb]; exact al_new wa _)
  rw [hnb]
  clear hw1 hnb
  go_wp2
  go_loopw [6, 7, 14] (fun s6 s7 ii wr => ∃ j : Nat, j ≤ 6 ∧ ii = .int .i64 j ∧ wr = w1) (fun s6 s7 ii _ => 6 - (intOf ii).toNat)
  case atStart => exact ⟨0, Nat.zero_le _, rfl, rfl⟩
  case round =>
    obtain ⟨j, hj, rfl, rfl⟩ := hrel
    have i0 : (0 : Int) ≤ (j : Int) := by omega
    by_cases jlt : j < 6
    · have i1 : (j : Int) < 6 := by omega
      have e0 := names_cell HN1.out jlt
      have t0 := HS.out j jlt
      go_wp2
      go_roundw
      case rel => exact ⟨j + 1, by omega, by go_num, trivial⟩
      case measure => simp [intOf]; omega
    · obtain rfl : j = 6 := by omega
      have HR2 := Lib.hid ((K1.out.block ro (by have := HZA.out; omega)).trans HRO.out)
      have r0 := cell_blk HR2.out 0
      have r1 := cell_blk HR2.out 1
      have r2 := cell_blk HR2.out 2
      have r3 := cell_blk HR2.out 3
      have f0 := blk_free HR2.out 0
      have f1 := blk_free HR2.out 1
      have f2 := blk_free HR2.out 2
      have f3 := blk_free HR2.out 3
      go_wp2_with fail
      have gf := grow_four wr ro (.int .i64 0) (.int .i64 0) (.slice none 0 0) (.slice none 0 0)
      have hrs := blk_four HR2.out (.int .i64 0) (.int .i64 0) (.slice none 0 0) (.slice none 0 0)
      generalize (((wr.setCell ⟨ro, 0, none⟩ (.int .i64 0)).setCell ⟨ro, 1, none⟩ (.int .i64 0)).setCell ⟨ro, 2, none⟩ (.slice none 0 0)).setCell ⟨ro, 3, none⟩ (.slice none 0 0) = wf at gf hrs ⊢
      clear r0 r1 r2 r3 f0 f1 f2 f3
      have r0 : wf.cell? ⟨ro, 0, none⟩ = some (.int .i64 0) := cell_blk hrs 0
      have r1 : wf.cell? ⟨ro, 1, none⟩ = some (.int .i64 0) := cell_blk hrs 1
      have r2 : wf.cell? ⟨ro, 2, none⟩ = some (.slice none 0 0) := cell_blk hrs 2
      have r3 : wf.cell? ⟨ro, 3, none⟩ = some (.slice none 0 0) := cell_blk hrs 3
      have hb := (HBA.out.trans (K1.out.mono HBA.out.size)).grown gf (Nat.le_trans HBA.out.size K1.out.size) (fun q z => by cases z; exact Nat.le_of_eq HRW.out)
      exact bodyPost_ret (v := .tuple #[.agg #[.int .i64 0, .int .i64 0, .slice none 0 0, .slice none 0 0], .int .i64 80]) (by simp [results, Tryd.results11, go_sem, r0, r1, r2, r3]) rfl ⟨rfl, hb⟩
/-- What Form tells of a name. -/
def FormYes (i m c k g : Nat) (st : Nat → Bool) (n : Int) (w : World) (e : Ending) (w' : World) : Prop := ∃ (a3 : Option Addr) (c3 : Nat) (a4 : Option Addr) (c4 : Nat), e = .returned (.tuple #[.agg #[.int .i64 (bP i), .int .i64 (bN i : Int), .slice a3 (bN i) c3, .slice a4 0 c4], .int .i64 0]) ∧ Hid (∃ B, w.heap.size ≤ B ∧ B ≤ w'.heap.size ∧ CoOwn w' B (.slice a3 (bN i) c3) (bN i) (bC i) ∧ OdOwn w' B (.slice a4 0 c4) 0 []) ∧ Hid (∀ W, Same5 m c k g w.heap.size w' W → ∃ m2, Cd W m2 c k g (upd st i) (cntB st i n)) ∧ Hid (But2 k g w w')
set_option maxHeartbeats 4000000 in
theorem form_hit (i : Nat) (hi : i < 6) (w : World) (m c k g : Nat) (st : Nat → Bool) (n : Int) (n0 : 0 ≤ n) (n1 : n ≤ 1000) (hT : Tab w) (h0 : 0 < g) (s : ByteArray) (hs : ∀ j, j < i → ((nm j).toList == s.toList) = false) (hs2 : ((nm i).toList == s.toList) = true) (hC : Cd w m c k g st n) :
    Calls Tryd.prog 11 #[.pointer (some ⟨c, 0, none⟩), .string s] w fun e w' => FormYes i m c k g st n w e w' := by
  have HS := Lib.hid hs
  have HS2 := Lib.hid hs2
  have HC := Lib.hid hC
  obtain ⟨ro, hro⟩ : ∃ ro, w.heap.size = ro := ⟨_, rfl⟩
  obtain ⟨wa, hwa⟩ : ∃ wa, w.alloc (.cells #[.int .i64 0, .int .i64 0, .slice none 0 0, .slice none 0 0] 29) = wa := ⟨_, rfl⟩
  have HRO : Hid (wa.heap[ro]? = some (.cells #[.int .i64 0, .int .i64 0, .slice none 0 0, .slice none 0 0] 29 (0, 0))) := Lib.hid (by rw [← hwa, ← hro, al_new])
  have HBA : Hid (Below w.heap.size w wa) := Lib.hid (by rw [← hwa]; exact (Below.refl _ w).alloc (Nat.le_refl _) _)
  have HZA : Hid (wa.heap.size = ro + 1) := Lib.hid (by rw [← hwa, ← hro]; simp)
  have HRW := Lib.hid hro
  have HR := Lib.hid (right_yes wa c _ (hC.keep HBA.out).cb)
  have HF := Lib.hid (fun W (h : Below w.heap.size w W) => form_any i hi W m c k g st n n0 n1 (hT.keep h) (hC.keep h) h0)
  have HI := Lib.hid hi
  have HBN := Lib.hid (bN_bd i)
  have lk := Lib.hid (show k < w.heap.size ∧ g < w.heap.size ∧ c < w.heap.size ∧ m ≤ w.heap.size from ⟨(Array.getElem?_eq_some_iff.1 hC.kb).1, by obtain ⟨cur, a, _⟩ := hC.gb; exact (Array.getElem?_eq_some_iff.1 a).1, (Array.getElem?_eq_some_iff.1 hC.cb).1, hC.mb⟩)
  clear hC hs hs2 hT
  go_enter Tryd.func11, Tryd.ntmps11
  go_wp2_with fail
  clear hwa hro
  (with_reducible refine HR.out.mono ?_)
  rintro e w2 ⟨rfl, rfl⟩
  go_wp2_with fail
  (with_reducible refine (names_any _).mono ?_)
  rintro e w1 ⟨rfl, hw1⟩
  obtain ⟨nb, hnb⟩ : ∃ nb, wa.heap.size = nb := ⟨_, rfl⟩
  have K1 : Hid (Below wa.heap.size wa w1) := Lib.hid (by rw [hw1]; exact (Below.refl _ wa).alloc (Nat.le_refl _) _)
  have HN1 : Hid (w1.heap[nb]? = some (.cells #[.string ⟨#[116, 105, 99, 107]⟩, .string ⟨#[100, 97, 121]⟩, .string ⟨#[119, 101, 101, 107]⟩, .string ⟨#[109, 111, 110, 116, 104]⟩, .string ⟨#[113, 117, 97, 114, 116, 101, 114]⟩, .string ⟨#[121, 101, 97, 114]⟩] 9 (0, 0))) := Lib.hid (by rw [hw1, ← hnb]; exact al_new wa _)
  rw [hnb]
  clear hw1 hnb
  go_wp2
  go_loopw [6, 7, 14] (fun s6 s7 ii wr => ∃ j : Nat, j ≤ i ∧ ii = .int .i64 j ∧ wr = w1) (fun s6 s7 ii _ => 6 - (intOf ii).toNat)
  case atStart => exact ⟨0, Nat.zero_le _, rfl, rfl⟩
  case round =>
    obtain ⟨j, hj, rfl, rfl⟩ := hrel
    have i0 : (0 : Int) ≤ (j : Int) := by omega
    have hi6 := HI.out
    have i1 : (j : Int) < 6 := by omega
    have e0 := names_cell HN1.out (show j < 6 by omega)
    by_cases jlt : j < i
    · have t0 := HS.out j jlt
      go_wp2
      go_roundw
      case rel => exact ⟨j + 1, by omega, by go_num, trivial⟩
      case measure => simp [intOf]; omega
    · obtain rfl : j = i := by omega
      have t0 := HS2.out
      have KW := Lib.hid (HBA.out.trans (K1.out.mono HBA.out.size))
      have e1 : wr.cell? ⟨c, 1, none⟩ = some (.pointer (some ⟨k, 0, none⟩)) := cell_blk (HC.out.keep KW.out).cb 1
      go_wp2_with fail
      (with_reducible refine (HF.out _ KW.out).mono ?_)
      rintro e w3 ⟨h, rfl, HCO, HCR, HBU⟩
      have HCP := Lib.hid (copy_any ⟨bP j, (bN j : Int), some ⟨h, 0, none⟩, bN j, bN j, none, 0, 0, bC j, []⟩ w3 (fv_bas HCO.out) (by show bN j ≤ 1000000; have := HBN.out.2; omega) (by show 0 ≤ 1000000; decide) (fun l hl => by rw [bC_one j l hl]; decide) (fun o ho => by cases ho))
      have HCP : Hid (Calls Tryd.prog 22 #[.agg #[.int .i64 (bP j), .int .i64 (bN j : Int), .slice (some ⟨h, 0, none⟩) (bN j) (bN j), .slice none 0 0]] w3 fun e w' => ∃ vc vo, e = .returned (.agg #[.int .i64 (bP j), .int .i64 (bN j : Int), vc, vo]) ∧ Hid (CoOwn w' w3.heap.size vc (bN j) (bC j) ∧ OdOwn w' w3.heap.size vo 0 []) ∧ Hid (Below w3.heap.size w3 w')) := HCP
      clear e1 e0 t0
      go_wp2_with fail
      (with_reducible refine HCP.out.mono ?_)
      rintro e w4 ⟨vc, vo, rfl, HOW, HB4⟩
      obtain ⟨a3, c3, rfl, _⟩ := HOW.out.1.vs
      obtain ⟨a4, c4, rfl, _⟩ := HOW.out.2.vs
      have HLO : Hid (ro < wr.heap.size ∧ wr.heap.size ≤ w3.heap.size ∧ w3.heap.size ≤ w4.heap.size ∧ ro = w.heap.size) := Lib.hid ⟨by have := HZA.out; have := K1.out.size; omega, HBU.out.size, HB4.out.size, HRW.out.symm⟩
      have HR2 := Lib.hid ((HB4.out.block ro (by have := HLO.out; omega)).trans ((HBU.out.old ro (by have := HLO.out; omega) (by have := HLO.out; have := lk.out; omega) (by have := HLO.out; have := lk.out; omega)).trans ((K1.out.block ro (by have := HZA.out; omega)).trans HRO.out)))
      have r0 := cell_blk HR2.out 0
      have r1 := cell_blk HR2.out 1
      have r2 := cell_blk HR2.out 2
      have r3 := cell_blk HR2.out 3
      have f0 := blk_free HR2.out 0
      have f1 := blk_free HR2.out 1
      have f2 := blk_free HR2.out 2
      have f3 := blk_free HR2.out 3
      go_wp2_with fail
      have gf := grow_four w4 ro (.int .i64 (bP j)) (.int .i64 (bN j : Int)) (.slice a3 (bN j) c3) (.slice a4 0 c4)
      have hrs := blk_four HR2.out (.int .i64 (bP j)) (.int .i64 (bN j : Int)) (.slice a3 (bN j) c3) (.slice a4 0 c4)
      generalize (((w4.setCell ⟨ro, 0, none⟩ (.int .i64 (bP j))).setCell ⟨ro, 1, none⟩ (.int .i64 (bN j : Int))).setCell ⟨ro, 2, none⟩ (.slice a3 (bN j) c3)).setCell ⟨ro, 3, none⟩ (.slice a4 0 c4) = wf at gf hrs ⊢
      clear r0 r1 r2 r3 f0 f1 f2 f3
      have r0 : wf.cell? ⟨ro, 0, none⟩ = some (.int .i64 (bP j)) := cell_blk hrs 0
      have r1 : wf.cell? ⟨ro, 1, none⟩ = some (.int .i64 (bN j : Int)) := cell_blk hrs 1
      have r2 : wf.cell? ⟨ro, 2, none⟩ = some (.slice a3 (bN j) c3) := cell_blk hrs 2
      have r3 : wf.cell? ⟨ro, 3, none⟩ = some (.slice a4 0 c4) := cell_blk hrs 3
      have hl := HLO.out
      have hk := lk.out
      have hgs := gf.size
      refine bodyPost_ret (v := .tuple #[.agg #[.int .i64 (bP j), .int .i64 (bN j : Int), .slice a3 (bN j) c3, .slice a4 0 c4], .int .i64 0]) (by simp [results, Tryd.results11, go_sem, r0, r1, r2, r3]) rfl ⟨a3, c3, a4, c4, rfl, Lib.hid ⟨w3.heap.size, by omega, by omega, ?_, ?_⟩, Lib.hid (fun W hW => ?_), Lib.hid ⟨?_, ?_, ?_, by omega, fun q q1 q2 q3 => ?_⟩⟩
      · exact HOW.out.1.grown gf (fun q e => .inl (by cases e; omega)) (fun q e => .inl (by cases e; omega))
      · exact HOW.out.2.grown gf (fun q e => .inl (by cases e; omega)) (fun q e => .inl (by cases e; omega))
      · refine HCR.out W ⟨by have := hW.1; omega, fun q q1 q2 => ?_⟩
        have hne : q ≠ ro := by rcases q2 with q2 | q2 | q2 | q2 | q2 <;> omega
        exact (hW.2 q (by omega) (by rcases q2 with q2 | q2 | q2 | q2 | q2 <;> omega)).trans ((gf.block q (by omega) (fun z => hne (Option.some.inj z))).trans (HB4.out.block q q1))
      · exact gf.os.trans (HB4.out.os.trans (HBU.out.os.trans KW.out.os))
      · exact gf.tape.trans (HB4.out.tape.trans (HBU.out.tape.trans KW.out.tape))
      · exact gf.output.trans (HB4.out.output.trans (HBU.out.output.trans KW.out.output))
      · exact (gf.block q (by omega) (fun z => by have : q = ro := Option.some.inj z; omega)).trans ((HB4.out.block q (by omega)).trans ((HBU.out.old q (by omega) q2 q3).trans (KW.out.block q q1)))
end Go.Proofs.YtacpcokmgahjaaaDoor
