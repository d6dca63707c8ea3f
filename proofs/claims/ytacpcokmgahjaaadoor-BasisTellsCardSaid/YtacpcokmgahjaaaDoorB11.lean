/- The chapter's examples (awake). -/
import Derived.Test.YtacpcokmgahjaaaDoorB10
namespace Go.Proofs.YtacpcokmgahjaaaDoor
set_option linter.unusedVariables false
set_option linter.unusedSimpArgs false
open Go.ChangeShapes Go.WideShapes Go.ChangeAt Go.RowKit
theorem same5_below {m c k g m2 : Nat} {w W : World} (h : Below w.heap.size w W) : Same5 m c k g m2 w W := ⟨h.size, fun q hq _ => h.block q hq⟩
theorem core_m {n k i : Nat} (h : i < k) {a b : Int} (ha : dayS ((i * n : Nat) : Int) = a) (hb : dayS ((i * n + n : Nat) : Int) - 1 = b) : (monC n k)[i]? = some [(a, b)] := by
  rw [List.getElem?_eq_getElem (by rw [monC_len]; exact h), monC_at, ha, hb]
theorem core_3_1 : (bC 3)[1]? = some [(31, 58)] := core_m (n := 1) (k := 4800) (by decide) (by decide) (by decide)
theorem core_3_25 : (bC 3)[25]? = some [(761, 789)] := core_m (n := 1) (k := 4800) (by decide) (by decide) (by decide)
theorem core_5_0 : (bC 5)[0]? = some [(0, 364)] := core_m (n := 12) (k := 400) (by decide) (by decide) (by decide)
theorem core_5_1 : (bC 5)[1]? = some [(365, 729)] := core_m (n := 12) (k := 400) (by decide) (by decide) (by decide)
theorem core_5_2 : (bC 5)[2]? = some [(730, 1095)] := core_m (n := 12) (k := 400) (by decide) (by decide) (by decide)
set_option maxRecDepth 8000 in
set_option maxHeartbeats 4000000 in
theorem awake_any (w : World) (hT : Tab w) : Calls Tryd.prog 15 #[] w fun e w' => e = .returned (.bool true) ∧ Below w.heap.size w w' := by
  have HT := Lib.hid hT
  clear hT
  go_enter Tryd.func15, Tryd.ntmps15
  go_wp2_with fail
  (with_reducible refine (new_any w).mono ?_)
  rintro e w1 ⟨c, k, g, rfl, HC, HL, HB⟩
  have HG0 : Hid (0 < g) := Lib.hid (by have := HL.out; omega)
  have HC1 : Hid (∃ m, Cd w1 m c k g (fun _ => false) 0) := Lib.hid ⟨_, HC.out⟩
  have HBW : Hid (Below w.heap.size w w1) := HB
  clear HC HB
  have HF : Hid (Calls Tryd.prog 11 #[.pointer (some ⟨c, 0, none⟩), .string ⟨#[119, 101, 101, 107]⟩] w1 fun e w' => ∃ (p1 : Option Addr) (q1 : Nat) (r1 : Option Addr) (s1 : Nat), e = .returned (.tuple #[.agg #[.int .i64 7, .int .i64 1, .slice p1 1 q1, .slice r1 0 s1], .int .i64 0]) ∧ Hid (∃ m : Nat, m ≤ w1.heap.size ∧ ∀ W, Same5 m c k g w1.heap.size w' W → ∃ m2, Cd W m2 c k g (upd (fun _ => false) 2) 1) ∧ Hid (Bx k g (w'.alloc (.cells #[.int .i64 7, .int .i64 1, .slice p1 1 q1, .slice r1 0 s1] 29)) w'.heap.size 2 p1 q1 r1 s1) ∧ Hid (But2 k g w1 w')) := Lib.hid (by
    obtain ⟨m, hm⟩ := HC1.out
    have lk := (Array.getElem?_eq_some_iff.1 hm.kb).1
    have lg : g < w1.heap.size := by obtain ⟨cu, a, _⟩ := hm.gb; exact (Array.getElem?_eq_some_iff.1 a).1
    have hmb := hm.mb
    refine (form_hit 2 (by decide) w1 m c k g (fun _ => false) 0 (by decide) (by decide) (HT.out.keep HBW.out) HG0.out ⟨#[119, 101, 101, 107]⟩ (fun j hj => ?_) (by kernel_rfl) hm).mono ?_
    · match j, hj with
      | 0, _ => have h : ((nm 0).toList == (⟨#[119, 101, 101, 107]⟩ : ByteArray).toList) = false := by kernel_rfl
                exact h
      | 1, _ => have h : ((nm 1).toList == (⟨#[119, 101, 101, 107]⟩ : ByteArray).toList) = false := by kernel_rfl
                exact h
    · rintro e w' ⟨a3, c3, a4, c4, rfl, ho, hr, hb⟩
      exact ⟨a3, c3, a4, c4, rfl, Lib.hid ⟨m, hmb, hr.out⟩, Lib.hid (Bx.new (m := m) (c := c) (st := (fun _ => false)) (n := 0) ho.out lk lg), hb⟩)
  go_wp2_with fail
  (with_reducible refine HF.out.mono ?_)
  rintro e v1 ⟨p1, q1, r1, s1, rfl, HR, HX1, HU⟩
  obtain ⟨b1, hb1⟩ : ∃ q, v1.heap.size = q := ⟨_, rfl⟩
  obtain ⟨w2, hw2⟩ : ∃ z, v1.alloc (.cells #[.int .i64 7, .int .i64 1, .slice p1 1 q1, .slice r1 0 s1] 29) = z := ⟨_, rfl⟩
  have KA : Hid (Below v1.heap.size v1 w2) := Lib.hid (by rw [← hw2]; exact (Below.refl _ v1).alloc (Nat.le_refl _) _)
  have HC2 : Hid (∃ m, Cd w2 m c k g (upd (fun _ => false) 2) 1) := Lib.hid (by obtain ⟨m, _, h⟩ := HR.out; exact h _ (same5_below KA.out))
  rw [hw2, hb1] at HX1
  have HU2 : Hid (But2 k g w1 w2) := Lib.hid (HU.out.trans (But2.of_below KA.out))
  have HBW : Hid (Below w.heap.size w w2) := Lib.hid (HBW.out.trans (HU2.out.below HL.out.2.1 (Nat.le_of_lt HL.out.2.2) HBW.out.size))
  clear HF HR HU HU2
  go_upto_region 3 with fail
  clear KA hb1 hw2
  have HF : Hid (Calls Tryd.prog 11 #[.pointer (some ⟨c, 0, none⟩), .string ⟨#[109, 111, 110, 116, 104]⟩] w2 fun e w' => ∃ (p2 : Option Addr) (q2 : Nat) (r2 : Option Addr) (s2 : Nat), e = .returned (.tuple #[.agg #[.int .i64 146097, .int .i64 4800, .slice p2 4800 q2, .slice r2 0 s2], .int .i64 0]) ∧ Hid (∃ m : Nat, m ≤ w2.heap.size ∧ ∀ W, Same5 m c k g w2.heap.size w' W → ∃ m2, Cd W m2 c k g (upd (upd (fun _ => false) 2) 3) 2) ∧ Hid (Bx k g (w'.alloc (.cells #[.int .i64 146097, .int .i64 4800, .slice p2 4800 q2, .slice r2 0 s2] 29)) w'.heap.size 3 p2 q2 r2 s2) ∧ Hid (But2 k g w2 w')) := Lib.hid (by
    obtain ⟨m, hm⟩ := HC2.out
    have lk := (Array.getElem?_eq_some_iff.1 hm.kb).1
    have lg : g < w2.heap.size := by obtain ⟨cu, a, _⟩ := hm.gb; exact (Array.getElem?_eq_some_iff.1 a).1
    have hmb := hm.mb
    refine (form_hit 3 (by decide) w2 m c k g (upd (fun _ => false) 2) 1 (by decide) (by decide) (HT.out.keep HBW.out) HG0.out ⟨#[109, 111, 110, 116, 104]⟩ (fun j hj => ?_) (by kernel_rfl) hm).mono ?_
    · match j, hj with
      | 0, _ => have h : ((nm 0).toList == (⟨#[109, 111, 110, 116, 104]⟩ : ByteArray).toList) = false := by kernel_rfl
                exact h
      | 1, _ => have h : ((nm 1).toList == (⟨#[109, 111, 110, 116, 104]⟩ : ByteArray).toList) = false := by kernel_rfl
                exact h
      | 2, _ => have h : ((nm 2).toList == (⟨#[109, 111, 110, 116, 104]⟩ : ByteArray).toList) = false := by kernel_rfl
                exact h
    · rintro e w' ⟨a3, c3, a4, c4, rfl, ho, hr, hb⟩
      exact ⟨a3, c3, a4, c4, rfl, Lib.hid ⟨m, hmb, hr.out⟩, Lib.hid (Bx.new (m := m) (c := c) (st := (upd (fun _ => false) 2)) (n := 1) ho.out lk lg), hb⟩)
  go_wp2_with fail
  (with_reducible refine HF.out.mono ?_)
  rintro e v2 ⟨p2, q2, r2, s2, rfl, HR, HX2, HU⟩
  obtain ⟨b2, hb2⟩ : ∃ q, v2.heap.size = q := ⟨_, rfl⟩
  obtain ⟨w3, hw3⟩ : ∃ z, v2.alloc (.cells #[.int .i64 146097, .int .i64 4800, .slice p2 4800 q2, .slice r2 0 s2] 29) = z := ⟨_, rfl⟩
  have KA : Hid (Below v2.heap.size v2 w3) := Lib.hid (by rw [← hw3]; exact (Below.refl _ v2).alloc (Nat.le_refl _) _)
  have HC3 : Hid (∃ m, Cd w3 m c k g (upd (upd (fun _ => false) 2) 3) 2) := Lib.hid (by obtain ⟨m, _, h⟩ := HR.out; exact h _ (same5_below KA.out))
  rw [hw3, hb2] at HX2
  have HU2 : Hid (But2 k g w2 w3) := Lib.hid (HU.out.trans (But2.of_below KA.out))
  have HBW : Hid (Below w.heap.size w w3) := Lib.hid (HBW.out.trans (HU2.out.below HL.out.2.1 (Nat.le_of_lt HL.out.2.2) HBW.out.size))
  have HX1 := Lib.hid (HX1.out.but HU2.out)
  clear HF HR HU HU2
  go_upto_region 4 with fail
  clear KA hb2 hw3
  have HF : Hid (Calls Tryd.prog 11 #[.pointer (some ⟨c, 0, none⟩), .string ⟨#[121, 101, 97, 114]⟩] w3 fun e w' => ∃ (p3 : Option Addr) (q3 : Nat) (r3 : Option Addr) (s3 : Nat), e = .returned (.tuple #[.agg #[.int .i64 146097, .int .i64 400, .slice p3 400 q3, .slice r3 0 s3], .int .i64 0]) ∧ Hid (∃ m : Nat, m ≤ w3.heap.size ∧ ∀ W, Same5 m c k g w3.heap.size w' W → ∃ m2, Cd W m2 c k g (upd (upd (upd (fun _ => false) 2) 3) 5) 3) ∧ Hid (Bx k g (w'.alloc (.cells #[.int .i64 146097, .int .i64 400, .slice p3 400 q3, .slice r3 0 s3] 29)) w'.heap.size 5 p3 q3 r3 s3) ∧ Hid (But2 k g w3 w')) := Lib.hid (by
    obtain ⟨m, hm⟩ := HC3.out
    have lk := (Array.getElem?_eq_some_iff.1 hm.kb).1
    have lg : g < w3.heap.size := by obtain ⟨cu, a, _⟩ := hm.gb; exact (Array.getElem?_eq_some_iff.1 a).1
    have hmb := hm.mb
    refine (form_hit 5 (by decide) w3 m c k g (upd (upd (fun _ => false) 2) 3) 2 (by decide) (by decide) (HT.out.keep HBW.out) HG0.out ⟨#[121, 101, 97, 114]⟩ (fun j hj => ?_) (by kernel_rfl) hm).mono ?_
    · match j, hj with
      | 0, _ => have h : ((nm 0).toList == (⟨#[121, 101, 97, 114]⟩ : ByteArray).toList) = false := by kernel_rfl
                exact h
      | 1, _ => have h : ((nm 1).toList == (⟨#[121, 101, 97, 114]⟩ : ByteArray).toList) = false := by kernel_rfl
                exact h
      | 2, _ => have h : ((nm 2).toList == (⟨#[121, 101, 97, 114]⟩ : ByteArray).toList) = false := by kernel_rfl
                exact h
      | 3, _ => have h : ((nm 3).toList == (⟨#[121, 101, 97, 114]⟩ : ByteArray).toList) = false := by kernel_rfl
                exact h
      | 4, _ => have h : ((nm 4).toList == (⟨#[121, 101, 97, 114]⟩ : ByteArray).toList) = false := by kernel_rfl
                exact h
    · rintro e w' ⟨a3, c3, a4, c4, rfl, ho, hr, hb⟩
      exact ⟨a3, c3, a4, c4, rfl, Lib.hid ⟨m, hmb, hr.out⟩, Lib.hid (Bx.new (m := m) (c := c) (st := (upd (upd (fun _ => false) 2) 3)) (n := 2) ho.out lk lg), hb⟩)
  go_wp2_with fail
  (with_reducible refine HF.out.mono ?_)
  rintro e v3 ⟨p3, q3, r3, s3, rfl, HR, HX3, HU⟩
  obtain ⟨b3, hb3⟩ : ∃ q, v3.heap.size = q := ⟨_, rfl⟩
  obtain ⟨w4, hw4⟩ : ∃ z, v3.alloc (.cells #[.int .i64 146097, .int .i64 400, .slice p3 400 q3, .slice r3 0 s3] 29) = z := ⟨_, rfl⟩
  have KA : Hid (Below v3.heap.size v3 w4) := Lib.hid (by rw [← hw4]; exact (Below.refl _ v3).alloc (Nat.le_refl _) _)
  have HC4 : Hid (∃ m, Cd w4 m c k g (upd (upd (upd (fun _ => false) 2) 3) 5) 3) := Lib.hid (by obtain ⟨m, _, h⟩ := HR.out; exact h _ (same5_below KA.out))
  rw [hw4, hb3] at HX3
  have HU2 : Hid (But2 k g w3 w4) := Lib.hid (HU.out.trans (But2.of_below KA.out))
  have HBW : Hid (Below w.heap.size w w4) := Lib.hid (HBW.out.trans (HU2.out.below HL.out.2.1 (Nat.le_of_lt HL.out.2.2) HBW.out.size))
  have HX1 := Lib.hid (HX1.out.but HU2.out)
  have HX2 := Lib.hid (HX2.out.but HU2.out)
  clear HF HR HU HU2
  go_upto_region 5 with fail
  clear KA hb3 hw4
  have HF : Hid (Calls Tryd.prog 11 #[.pointer (some ⟨c, 0, none⟩), .string ⟨#[104, 111, 117, 114]⟩] w4 fun e w' => FormNo 80 w4 e w') := Lib.hid (by
    obtain ⟨m, hm⟩ := HC4.out
    refine form_miss w4 m c k g _ _ ⟨#[104, 111, 117, 114]⟩ (fun j hj => ?_) hm
    match j, hj with
    | 0, _ => have h : ((nm 0).toList == (⟨#[104, 111, 117, 114]⟩ : ByteArray).toList) = false := by kernel_rfl
              exact h
    | 1, _ => have h : ((nm 1).toList == (⟨#[104, 111, 117, 114]⟩ : ByteArray).toList) = false := by kernel_rfl
              exact h
    | 2, _ => have h : ((nm 2).toList == (⟨#[104, 111, 117, 114]⟩ : ByteArray).toList) = false := by kernel_rfl
              exact h
    | 3, _ => have h : ((nm 3).toList == (⟨#[104, 111, 117, 114]⟩ : ByteArray).toList) = false := by kernel_rfl
              exact h
    | 4, _ => have h : ((nm 4).toList == (⟨#[104, 111, 117, 114]⟩ : ByteArray).toList) = false := by kernel_rfl
              exact h
    | 5, _ => have h : ((nm 5).toList == (⟨#[104, 111, 117, 114]⟩ : ByteArray).toList) = false := by kernel_rfl
              exact h)
  go_wp2_with fail
  (with_reducible refine HF.out.mono ?_)
  rintro e v4 ⟨rfl, hb⟩
  have HB4 := Lib.hid hb
  clear hb HF
  go_upto_region 6 with fail
  obtain ⟨w5, hw5⟩ : ∃ z, v4.alloc (.cells #[.int .i64 0, .int .i64 0, .slice none 0 0, .slice none 0 0] 29) = z := ⟨_, rfl⟩
  have KA : Hid (Below w4.heap.size w4 w5) := Lib.hid (by rw [← hw5]; exact HB4.out.alloc HB4.out.size _)
  obtain ⟨m, hm⟩ := HC4.out
  have HC5 := Lib.hid (hm.keep KA.out)
  have HBW : Hid (Below w.heap.size w w5) := Lib.hid (HBW.out.trans (KA.out.mono HBW.out.size))
  have HX1 := Lib.hid (HX1.out.but (But2.of_below KA.out))
  have HX2 := Lib.hid (HX2.out.but (But2.of_below KA.out))
  have HX3 := Lib.hid (HX3.out.but (But2.of_below KA.out))
  clear hm
  rw [hw5]
  clear hw5 HB4 KA HC1 HC2 HC3 HC4
  have lkg := Lib.hid HX1.out.n1
  have a0 : w5.cell? ⟨b1, 0, none⟩ = some (.int .i64 7) := cell_blk HX1.out.box 0
  have a1 : w5.cell? ⟨b1, 1, none⟩ = some (.int .i64 1) := cell_blk HX1.out.box 1
  have a2 : w5.cell? ⟨b1, 2, none⟩ = some (.slice p1 1 q1) := cell_blk HX1.out.box 2
  have a3 : w5.cell? ⟨b1, 3, none⟩ = some (.slice r1 0 s1) := cell_blk HX1.out.box 3
  have c0 : w5.cell? ⟨b2, 0, none⟩ = some (.int .i64 146097) := cell_blk HX2.out.box 0
  have c1 : w5.cell? ⟨b2, 1, none⟩ = some (.int .i64 4800) := cell_blk HX2.out.box 1
  have c2 : w5.cell? ⟨b2, 2, none⟩ = some (.slice p2 4800 q2) := cell_blk HX2.out.box 2
  have c3 : w5.cell? ⟨b2, 3, none⟩ = some (.slice r2 0 s2) := cell_blk HX2.out.box 3
  have d0 : w5.cell? ⟨b3, 0, none⟩ = some (.int .i64 146097) := cell_blk HX3.out.box 0
  have d1 : w5.cell? ⟨b3, 1, none⟩ = some (.int .i64 400) := cell_blk HX3.out.box 1
  have d2 : w5.cell? ⟨b3, 2, none⟩ = some (.slice p3 400 q3) := cell_blk HX3.out.box 2
  have d3 : w5.cell? ⟨b3, 3, none⟩ = some (.slice r3 0 s3) := cell_blk HX3.out.box 3
  have HK : Hid (Calls Tryd.prog 27 #[.agg #[.int .i64 7, .int .i64 1, .slice p1 1 q1, .slice r1 0 s1], .int .i64 0] w5 fun e w' => e = .returned (.agg #[.int .i64 (-3), .int .i64 3]) ∧ Below w5.heap.size w5 w') := Lib.hid (core_any 7 1 p1 r1 1 q1 0 s1 0 (bC 2) (-3) 3 w5 HX1.out.co (by decide) (by rfl))
  go_wp2_with fail
  (with_reducible refine HK.out.mono ?_)
  rintro e u1 ⟨rfl, qq⟩
  have KA := Lib.hid qq
  have HC5 := Lib.hid (HC5.out.keep KA.out)
  have HBW := Lib.hid (HBW.out.trans (KA.out.mono HBW.out.size))
  have HX1 := Lib.hid (HX1.out.but (But2.of_below KA.out))
  have HX2 := Lib.hid (HX2.out.but (But2.of_below KA.out))
  have HX3 := Lib.hid (HX3.out.but (But2.of_below KA.out))
  have a0 := cell_keep a0 KA.out
  have a1 := cell_keep a1 KA.out
  have a2 := cell_keep a2 KA.out
  have a3 := cell_keep a3 KA.out
  have c0 := cell_keep c0 KA.out
  have c1 := cell_keep c1 KA.out
  have c2 := cell_keep c2 KA.out
  have c3 := cell_keep c3 KA.out
  have d0 := cell_keep d0 KA.out
  have d1 := cell_keep d1 KA.out
  have d2 := cell_keep d2 KA.out
  have d3 := cell_keep d3 KA.out
  clear KA qq HK
  have HK : Hid (Calls Tryd.prog 27 #[.agg #[.int .i64 146097, .int .i64 4800, .slice p2 4800 q2, .slice r2 0 s2], .int .i64 1] u1 fun e w' => e = .returned (.agg #[.int .i64 (31), .int .i64 58]) ∧ Below u1.heap.size u1 w') := Lib.hid (core_any 146097 4800 p2 r2 4800 q2 0 s2 1 (bC 3) (31) 58 u1 HX2.out.co (by decide) (by exact core_3_1))
  go_wp2_with fail
  (with_reducible refine HK.out.mono ?_)
  rintro e u2 ⟨rfl, qq⟩
  have KA := Lib.hid qq
  have HC5 := Lib.hid (HC5.out.keep KA.out)
  have HBW := Lib.hid (HBW.out.trans (KA.out.mono HBW.out.size))
  have HX1 := Lib.hid (HX1.out.but (But2.of_below KA.out))
  have HX2 := Lib.hid (HX2.out.but (But2.of_below KA.out))
  have HX3 := Lib.hid (HX3.out.but (But2.of_below KA.out))
  have a0 := cell_keep a0 KA.out
  have a1 := cell_keep a1 KA.out
  have a2 := cell_keep a2 KA.out
  have a3 := cell_keep a3 KA.out
  have c0 := cell_keep c0 KA.out
  have c1 := cell_keep c1 KA.out
  have c2 := cell_keep c2 KA.out
  have c3 := cell_keep c3 KA.out
  have d0 := cell_keep d0 KA.out
  have d1 := cell_keep d1 KA.out
  have d2 := cell_keep d2 KA.out
  have d3 := cell_keep d3 KA.out
  clear KA qq HK
  have HK : Hid (Calls Tryd.prog 27 #[.agg #[.int .i64 146097, .int .i64 4800, .slice p2 4800 q2, .slice r2 0 s2], .int .i64 25] u2 fun e w' => e = .returned (.agg #[.int .i64 (761), .int .i64 789]) ∧ Below u2.heap.size u2 w') := Lib.hid (core_any 146097 4800 p2 r2 4800 q2 0 s2 25 (bC 3) (761) 789 u2 HX2.out.co (by decide) (by exact core_3_25))
  go_wp2_with fail
  (with_reducible refine HK.out.mono ?_)
  rintro e u3 ⟨rfl, qq⟩
  have KA := Lib.hid qq
  have HC5 := Lib.hid (HC5.out.keep KA.out)
  have HBW := Lib.hid (HBW.out.trans (KA.out.mono HBW.out.size))
  have HX1 := Lib.hid (HX1.out.but (But2.of_below KA.out))
  have HX2 := Lib.hid (HX2.out.but (But2.of_below KA.out))
  have HX3 := Lib.hid (HX3.out.but (But2.of_below KA.out))
  have a0 := cell_keep a0 KA.out
  have a1 := cell_keep a1 KA.out
  have a2 := cell_keep a2 KA.out
  have a3 := cell_keep a3 KA.out
  have c0 := cell_keep c0 KA.out
  have c1 := cell_keep c1 KA.out
  have c2 := cell_keep c2 KA.out
  have c3 := cell_keep c3 KA.out
  have d0 := cell_keep d0 KA.out
  have d1 := cell_keep d1 KA.out
  have d2 := cell_keep d2 KA.out
  have d3 := cell_keep d3 KA.out
  clear KA qq HK
  have HK : Hid (Calls Tryd.prog 27 #[.agg #[.int .i64 146097, .int .i64 400, .slice p3 400 q3, .slice r3 0 s3], .int .i64 0] u3 fun e w' => e = .returned (.agg #[.int .i64 (0), .int .i64 364]) ∧ Below u3.heap.size u3 w') := Lib.hid (core_any 146097 400 p3 r3 400 q3 0 s3 0 (bC 5) (0) 364 u3 HX3.out.co (by decide) (by exact core_5_0))
  go_wp2_with fail
  (with_reducible refine HK.out.mono ?_)
  rintro e u4 ⟨rfl, qq⟩
  have KA := Lib.hid qq
  have HC5 := Lib.hid (HC5.out.keep KA.out)
  have HBW := Lib.hid (HBW.out.trans (KA.out.mono HBW.out.size))
  have HX1 := Lib.hid (HX1.out.but (But2.of_below KA.out))
  have HX2 := Lib.hid (HX2.out.but (But2.of_below KA.out))
  have HX3 := Lib.hid (HX3.out.but (But2.of_below KA.out))
  have a0 := cell_keep a0 KA.out
  have a1 := cell_keep a1 KA.out
  have a2 := cell_keep a2 KA.out
  have a3 := cell_keep a3 KA.out
  have c0 := cell_keep c0 KA.out
  have c1 := cell_keep c1 KA.out
  have c2 := cell_keep c2 KA.out
  have c3 := cell_keep c3 KA.out
  have d0 := cell_keep d0 KA.out
  have d1 := cell_keep d1 KA.out
  have d2 := cell_keep d2 KA.out
  have d3 := cell_keep d3 KA.out
  clear KA qq HK
  have HK : Hid (Calls Tryd.prog 27 #[.agg #[.int .i64 146097, .int .i64 400, .slice p3 400 q3, .slice r3 0 s3], .int .i64 1] u4 fun e w' => e = .returned (.agg #[.int .i64 (365), .int .i64 729]) ∧ Below u4.heap.size u4 w') := Lib.hid (core_any 146097 400 p3 r3 400 q3 0 s3 1 (bC 5) (365) 729 u4 HX3.out.co (by decide) (by exact core_5_1))
  go_wp2_with fail
  (with_reducible refine HK.out.mono ?_)
  rintro e u5 ⟨rfl, qq⟩
  have KA := Lib.hid qq
  have HC5 := Lib.hid (HC5.out.keep KA.out)
  have HBW := Lib.hid (HBW.out.trans (KA.out.mono HBW.out.size))
  have HX1 := Lib.hid (HX1.out.but (But2.of_below KA.out))
  have HX2 := Lib.hid (HX2.out.but (But2.of_below KA.out))
  have HX3 := Lib.hid (HX3.out.but (But2.of_below KA.out))
  have a0 := cell_keep a0 KA.out
  have a1 := cell_keep a1 KA.out
  have a2 := cell_keep a2 KA.out
  have a3 := cell_keep a3 KA.out
  have c0 := cell_keep c0 KA.out
  have c1 := cell_keep c1 KA.out
  have c2 := cell_keep c2 KA.out
  have c3 := cell_keep c3 KA.out
  have d0 := cell_keep d0 KA.out
  have d1 := cell_keep d1 KA.out
  have d2 := cell_keep d2 KA.out
  have d3 := cell_keep d3 KA.out
  clear KA qq HK
  have HK : Hid (Calls Tryd.prog 27 #[.agg #[.int .i64 146097, .int .i64 400, .slice p3 400 q3, .slice r3 0 s3], .int .i64 2] u5 fun e w' => e = .returned (.agg #[.int .i64 (730), .int .i64 1095]) ∧ Below u5.heap.size u5 w') := Lib.hid (core_any 146097 400 p3 r3 400 q3 0 s3 2 (bC 5) (730) 1095 u5 HX3.out.co (by decide) (by exact core_5_2))
  go_wp2_with fail
  (with_reducible refine HK.out.mono ?_)
  rintro e u6 ⟨rfl, qq⟩
  have KA := Lib.hid qq
  have HC5 := Lib.hid (HC5.out.keep KA.out)
  have HBW := Lib.hid (HBW.out.trans (KA.out.mono HBW.out.size))
  have HX1 := Lib.hid (HX1.out.but (But2.of_below KA.out))
  have HX2 := Lib.hid (HX2.out.but (But2.of_below KA.out))
  have HX3 := Lib.hid (HX3.out.but (But2.of_below KA.out))
  have a0 := cell_keep a0 KA.out
  have a1 := cell_keep a1 KA.out
  have a2 := cell_keep a2 KA.out
  have a3 := cell_keep a3 KA.out
  have c0 := cell_keep c0 KA.out
  have c1 := cell_keep c1 KA.out
  have c2 := cell_keep c2 KA.out
  have c3 := cell_keep c3 KA.out
  have d0 := cell_keep d0 KA.out
  have d1 := cell_keep d1 KA.out
  have d2 := cell_keep d2 KA.out
  have d3 := cell_keep d3 KA.out
  clear KA qq HK
  have HK := Lib.hid (made_yes u6 m c k g _ 3 HC5.out (by decide) (by decide))
  go_wp2_with fail
  (with_reducible refine HK.out.mono ?_)
  rintro e uz ⟨rfl, rfl⟩
  go_wp2
  go_returns
  exact ⟨rfl, HBW.out⟩
end Go.Proofs.YtacpcokmgahjaaaDoor
