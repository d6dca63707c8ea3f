/- StpWays: the law. -/
import Derived.Test.YtnhbinghinlhgaaAw
namespace Go.Proofs.Ytnhbinghinlhgaa
set_option linter.unusedVariables false
set_option linter.unusedSimpArgs false
open Go.ChangeShapes Go.WideShapes Go.ChangeAt Go.RowKit

theorem small_pow {n : Nat} (h : n ≤ 24) : (2 : Int) ^ n ≤ 16777216 := by
  have := two_pow (Q := 1) (by decide) h
  have e : (2 : Int) ^ 24 = 16777216 := by decide
  omega
theorem pow_pos' (n : Nat) : (0 : Int) < 2 ^ n := Int.pow_pos (by decide)
/-- The numbers of a closure. -/
theorem within_closed {n : Nat} {Q : Int} {M C : Mat} (hQ : 0 ≤ Q) (h : Within n Q M) (e : closed n M = some C) : Within n (2 ^ n * Q) C := by
  simp only [closed] at e
  split at e
  · cases e
  · rename_i N eN
    split at e
    · cases e
    · cases e
      exact within_phases hQ h n _ (Nat.le_refl n) eN
theorem within_closed' {n : Nat} {M C : Mat} (hn : n ≤ 24) (h : Within n 1000 M) (e : closed n M = some C) : Within n 16777216000 C := by
  have w := within_closed (by decide) h e
  have := small_pow hn
  exact fun i j hi hj => Bd.within_mono (by omega) (w i j hi hj)
theorem close_1000 (g o n k : Nat) (b p c : Nat → Nat) (M : Mat) (h0 : 0 < n) (hn : n ≤ 24) (hk : n ≤ k) (hk' : k ≤ 9223372036854775807) (hM : Within n 16777216000 M) (w : World) (hw : NetAt w g o n b p c M) :
    Calls Try.prog 17 #[.slice (some ⟨g, o, none⟩) n k] w fun e w' => CloseIs w w' n e (closed n M) :=
  close_net 16777216000 (by decide) g o n k b p c M (by have := small_pow hn; have := pow_pos' n; omega) h0 hn hk hk' (fits_of hM (by decide)) hM w hw
theorem wide_1000 {n : Nat} {M : Mat} (h : Within n 1000 M) : Within n 16777216000 M := fun i j hi hj => Bd.within_mono (by decide) (h i j hi hj)

/-- What a pair of variables shows. -/
structure Two (C M D : Mat) (i j : Nat) : Prop where
  same : D i j = C i j
  le : Bd.le (C i j) (M i j)
  dia : i = j → C i j = some 0

theorem ways_none (a n : Nat) (ha : a < 256) (hn : n = 1 + a % 24) (v : Value) (w : World) (hv : RawIn w v) (w1 : World) : True := trivial

/-- The two boxes of a round. -/
def Boxes (wx : World) (xa xb : Nat) (p q r s : Int) : Prop :=
  wx.cell? ⟨xa, 0, none⟩ = some (.int .i8 p) ∧ wx.cell? ⟨xa, 1, none⟩ = some (.int .i64 q) ∧ wx.cell? ⟨xb, 0, none⟩ = some (.int .i8 r) ∧ wx.cell? ⟨xb, 1, none⟩ = some (.int .i64 s)

theorem Boxes.drew {wx : World} {xa xb : Nat} {p q r s : Int} (h : Boxes wx xa xb p q r s) : Boxes wx.drew xa xb p q r s := ⟨h.1, h.2.1, h.2.2.1, h.2.2.2⟩
theorem boxes_ab (w : World) (P Q R S : Int) : Hid (Boxes ((w.alloc (.cells #[.int .i8 P, .int .i64 Q] 26)).alloc (.cells #[.int .i8 R, .int .i64 S] 26)) w.heap.size (w.heap.size + 1) P Q R S) := by
  have h := box_cells (w.alloc (.cells #[.int .i8 P, .int .i64 Q] 26)) (.int .i8 R) (.int .i64 S) 26
  have k := box_cells w (.int .i8 P) (.int .i64 Q) 26
  have b := (Below.refl _ (w.alloc (.cells #[.int .i8 P, .int .i64 Q] 26))).alloc (Nat.le_refl _) (.cells #[.int .i8 R, .int .i64 S] 26)
  rw [show (w.alloc (.cells #[.int .i8 P, .int .i64 Q] 26)).heap.size = w.heap.size + 1 by simp] at h
  exact Lib.hid ⟨cell_keep k.1 b, cell_keep k.2 b, h.1, h.2⟩
theorem boxes_ba (w : World) (P Q R S : Int) : Hid (Boxes ((w.alloc (.cells #[.int .i8 R, .int .i64 S] 26)).alloc (.cells #[.int .i8 P, .int .i64 Q] 26)) (w.heap.size + 1) w.heap.size P Q R S) := by
  obtain ⟨h1, h2, h3, h4⟩ := (boxes_ab w R S P Q).out
  exact Lib.hid ⟨h3, h4, h1, h2⟩
theorem boxes_below (w : World) (P Q R S : Int) : Hid (Below w.heap.size w ((w.alloc (.cells #[.int .i8 P, .int .i64 Q] 26)).alloc (.cells #[.int .i8 R, .int .i64 S] 26))) :=
  Lib.hid (((Below.refl _ w).alloc (Nat.le_refl _) _).alloc (by simp) _)

set_option maxRecDepth 100000 in
set_option maxHeartbeats 8000000 in
theorem ways_law (a n : Nat) (ha : a < 256) (hn : n = 1 + a % 24) (v : Value) (w : World) (hv : RawIn w v) :
    Calls Try.prog 5 #[.int .u8 a, v] w fun e w' => e = .returned (.bool true) ∧ Below w.heap.size w w' := by
  have BT := Lib.hid (built_any a n ha hn v w hv)
  have h0 : 0 < n := by omega
  have hn24 : n ≤ 24 := by omega
  have n7 : ((n : Int) == 0) = false := by simp; omega
  clear ha hn hv
  go_enter Try.func5, Try.ntmps5
  go_upto_region 4 with (go_at_call 20; (with_reducible refine (BT.out).mono ?_); rintro e w1 ⟨M, hM, g, o, k, b, p, c, rfl, hk, hl, HN, HB⟩; have HM := Lib.hid hM; clear hM)
  have CL := Lib.hid (close_1000 g o n k b p c M h0 hn24 hk hl (wide_1000 HM.out) w1 HN.out.net)
  cases hc : closed n M with
  | none =>
    rw [hc] at CL
    have CL2 : Hid (Calls Try.prog 17 #[.slice (some ⟨g, o, none⟩) n k] w1 fun e w' => e = .returned (.tuple #[.slice none 0 0, .bool false, .int .i64 0]) ∧ Hid (Below w1.heap.size w1 w')) := CL
    clear CL hc
    go_wp2_with (first
      | (go_at_call 17; (with_reducible refine (CL2.out).mono ?_); rintro e w2 ⟨rfl, HB2⟩)
      | (go_at_call 8; (with_reducible refine (awake_any _).mono ?_); rintro e w3 ⟨rfl, b3⟩))
    go_returns
    exact ⟨rfl, (HB.out.trans (HB2.out.mono HB.out.size)).trans (b3.mono (Nat.le_trans HB.out.size HB2.out.size))⟩
  | some C =>
    rw [hc] at CL
    have CL2 : Hid (Calls Try.prog 17 #[.slice (some ⟨g, o, none⟩) n k] w1 fun e w' => ∃ g o k b p c, e = .returned (.tuple #[.slice (some ⟨g, o, none⟩) n k, .bool true, .int .i64 0]) ∧ n ≤ k ∧ k ≤ 9223372036854775807 ∧ Hid (NetOwn w' w1.heap.size g o n b p c C) ∧ Hid (Below w1.heap.size w1 w')) := CL
    have HWC := Lib.hid (within_closed' hn24 HM.out hc)
    have HC := Lib.hid (closed_is hc)
    obtain ⟨D, hD, eD⟩ := closed_again hc
    have CL3 := Lib.hid (fun (g o k : Nat) (b p c : Nat → Nat) (hk : n ≤ k) (hl : k ≤ 9223372036854775807) (w : World) (hw : NetAt w g o n b p c C) => close_1000 g o n k b p c C h0 hn24 hk hl HWC.out w hw)
    rw [hD] at CL3
    have CL4 : Hid (∀ (g o k : Nat) (b p c : Nat → Nat) (hk : n ≤ k) (hl : k ≤ 9223372036854775807) (w : World) (hw : NetAt w g o n b p c C), Calls Try.prog 17 #[.slice (some ⟨g, o, none⟩) n k] w fun e w' => ∃ g o k b p c, e = .returned (.tuple #[.slice (some ⟨g, o, none⟩) n k, .bool true, .int .i64 0]) ∧ n ≤ k ∧ k ≤ 9223372036854775807 ∧ Hid (NetOwn w' w.heap.size g o n b p c D) ∧ Hid (Below w.heap.size w w')) := CL3
    have HT := Lib.hid (show ∀ i j, i < n → j < n → Two C M D i j from fun i j hi hj => ⟨eD i j hi hj, HC.out.le i j hi hj, fun e => by subst e; exact HC.out.dia i hi⟩)
    clear CL CL3 hc hD eD
    go_upto_region 8 with (first
      | (go_at_call 17; (fail_if_success (have := hk2)); (with_reducible refine (CL2.out).mono ?_); rintro e w2 ⟨g2, o2, k2, b2, p2, c2, rfl, hk2, hl2, HN2, HB2⟩; have N1 := Lib.hid (HN.out.keep HB2.out))
      | (go_at_call 17; (with_reducible refine (CL4.out _ _ _ _ _ _ hk2 hl2 _ HN2.out.net).mono ?_); rintro e w3 ⟨g3, o3, k3, b3, p3, c3, rfl, hk3, hl3, HN3, HB3⟩; have N11 := Lib.hid (N1.out.keep HB3.out); have N22 := Lib.hid (HN2.out.keep HB3.out)))
    have HBB := Lib.hid ((HB.out.trans (HB2.out.mono HB.out.size)).trans (HB3.out.mono (Nat.le_trans HB.out.size HB2.out.size)))
    clear HN HN2 HB HB2 HB3 CL2 CL4 N1 BT HM
    have SQ3 := Lib.hid (square_net g3 o3 n k3 b3 p3 c3 D hn24 hk3 hl3 w3 HN3.out.net)
    have SQ2 := Lib.hid (square_net g2 o2 n k2 b2 p2 c2 C hn24 hk2 hl2 w3 N22.out.net)
    go_upto_region 10 with (first
      | (go_at_call 21; (with_reducible refine (SQ3.out).mono ?_); rintro e w' ⟨rfl, rfl⟩)
      | (go_at_call 21; (with_reducible refine (SQ2.out).mono ?_); rintro e w' ⟨rfl, rfl⟩))
    clear SQ3 SQ2
    go_wp2
    go_loopw [69] (fun ii wr => ∃ i : Nat, i ≤ n ∧ ii = .int .i64 i ∧ Hid (Below w3.heap.size w3 wr)) (fun ii _ => n - (intOf ii).toNat)
    case atStart => exact ⟨0, Nat.zero_le _, rfl, Lib.hid (Below.refl _ _)⟩
    case round =>
      obtain ⟨i, hi, rfl, HR⟩ := hrel
      by_cases ilt : i < n
      · have i0 : (0 : Int) ≤ (i : Int) := by omega
        have i1 : (i : Int) < (n : Int) := by omega
        go_wp2
        go_loopw [74] (fun jj wr => ∃ j : Nat, j ≤ n ∧ jj = .int .i64 j ∧ Hid (Below w3.heap.size w3 wr)) (fun jj _ => n - (intOf jj).toNat)
        case atStart => exact ⟨0, Nat.zero_le _, rfl, HR⟩
        case round =>
          clear HR
          obtain ⟨j, hj, rfl, HR⟩ := hrel
          by_cases jlt : j < n
          · have j0 : (0 : Int) ≤ (j : Int) := by omega
            have j1 : (j : Int) < (n : Int) := by omega
            have W1 := Lib.hid (N11.out.keep HR.out)
            have W2 := Lib.hid (N22.out.keep HR.out)
            have W3 := Lib.hid (HN3.out.keep HR.out)
            have TT := HT.out i j ilt jlt
            have d1 := W1.out.net.row i ilt
            have d2 := (W1.out.net.cells i ilt).inf j jlt
            have d3 := (W1.out.net.cells i ilt).num j jlt
            have x1 := W2.out.net.row i ilt
            have x2 := (W2.out.net.cells i ilt).inf j jlt
            have x3 := (W2.out.net.cells i ilt).num j jlt
            have y1 := W3.out.net.row i ilt
            have y2 := (W3.out.net.cells i ilt).inf j jlt
            have y3 := (W3.out.net.cells i ilt).num j jlt
            rw [TT.same] at y2 y3
            obtain ⟨X, hX⟩ : ∃ X, infOf (C i j) = X := ⟨_, rfl⟩
            obtain ⟨Y, hY⟩ : ∃ Y, numOf (C i j) = Y := ⟨_, rfl⟩
            obtain ⟨U, hU⟩ : ∃ U, infOf (M i j) = U := ⟨_, rfl⟩
            obtain ⟨V, hV⟩ : ∃ V, numOf (M i j) = V := ⟨_, rfl⟩
            rw [hX] at x2 y2
            rw [hY] at x3 y3
            rw [hU] at d2
            rw [hV] at d3
            have HX0 := Lib.hid hX
            have HY0 := Lib.hid hY
            have HU0 := Lib.hid hU
            have HV0 := Lib.hid hV
            clear hX hY hU hV
            go_upto_region 17 with fail
            have HA := Lib.hid (HR.out.alloc HR.out.size (.cells #[.int .i8 X, .int .i64 Y] 26))
            have KA := (Below.refl _ wr).alloc (Nat.le_refl _) (.cells #[.int .i8 X, .int .i64 Y] 26)
            have d1 := cell_keep d1 KA
            have d2 := cell_keep d2 KA
            have d3 := cell_keep d3 KA
            have y1 := cell_keep y1 KA
            have y2 := cell_keep y2 KA
            have y3 := cell_keep y3 KA
            clear x1 x2 x3 KA
            generalize b i = bi at *
            generalize p i = pi at *
            generalize c i = ci at *
            generalize b3 i = bi3 at *
            generalize p3 i = pi3 at *
            generalize c3 i = ci3 at *
            have HTT := Lib.hid TT
            clear TT
            go_cut [147] (fun s wx => s = .bool false ∧ Hid (wx.cell? ⟨wr.heap.size, 0, none⟩ = some (.int .i8 X) ∧ wx.cell? ⟨wr.heap.size, 1, none⟩ = some (.int .i64 Y)) ∧ Hid (Below w3.heap.size w3 wx))
            case first =>
              have le := HTT.out.le
              have di := HTT.out.dia
              cases hx : C i j with
              | none =>
                have hne : ((i : Int) == (j : Int)) = false := by
                  rw [beq_eq_false_iff_ne]; intro e; have := di (by omega); rw [hx] at this; cases this
                have hm : M i j = none := by
                  cases hm : M i j with
                  | none => rfl
                  | some m => rw [hx, hm] at le; exact absurd le (by simp [Bd.le])
                obtain rfl : (1 : Int) = X := by rw [← HX0.out, hx]; rfl
                obtain rfl : (0 : Int) = Y := by rw [← HY0.out, hx]; rfl
                obtain rfl : (1 : Int) = U := by rw [← HU0.out, hm]; rfl
                obtain rfl : (0 : Int) = V := by rw [← HV0.out, hm]; rfl
                clear le di HTT hx hm HX0 HY0 HU0 HV0
                go_quiet (fail)
                go_wp2_with fail
                go_meet
                exact ⟨rfl, Lib.hid (box_cells wr _ _ 26), Lib.hid (below_drewN HA.out _)⟩
              | some r =>
                obtain rfl : (0 : Int) = X := by rw [← HX0.out, hx]; rfl
                obtain rfl : r = Y := by rw [← HY0.out, hx]; rfl
                cases hm : M i j with
                | none =>
                  obtain rfl : (1 : Int) = U := by rw [← HU0.out, hm]; rfl
                  obtain rfl : (0 : Int) = V := by rw [← HV0.out, hm]; rfl
                  cases hij : ((i : Int) == (j : Int))
                  · clear le di HTT hx hm HX0 HY0 HU0 HV0
                    go_quiet (fail)
                    go_wp2_with fail
                    go_meet
                    exact ⟨rfl, Lib.hid (box_cells wr _ _ 26), Lib.hid (below_drewN HA.out _)⟩
                  · have r0 : r = 0 := by
                      have e := di (by have := eq_of_beq hij; omega)
                      rw [hx] at e; exact Option.some.inj e
                    clear HX0 HY0 HU0 HV0
                    subst r0
                    clear le di HTT hx hm
                    go_quiet (fail)
                    go_wp2_with fail
                    go_meet
                    exact ⟨rfl, Lib.hid (box_cells wr _ _ 26), Lib.hid (below_drewN HA.out _)⟩
                | some m =>
                  have lm : ¬ m < r := by rw [hx, hm] at le; simp only [Bd.le] at le; omega
                  obtain rfl : (0 : Int) = U := by rw [← HU0.out, hm]; rfl
                  obtain rfl : m = V := by rw [← HV0.out, hm]; rfl
                  cases hij : ((i : Int) == (j : Int))
                  · clear le di HTT hx hm HX0 HY0 HU0 HV0
                    go_quiet (fail)
                    go_wp2_with fail
                    go_meet
                    exact ⟨rfl, Lib.hid (box_cells wr _ _ 26), Lib.hid (below_drewN HA.out _)⟩
                  · have r0 : r = 0 := by
                      have e := di (by have := eq_of_beq hij; omega)
                      rw [hx] at e; exact Option.some.inj e
                    clear HX0 HY0 HU0 HV0
                    subst r0
                    clear le di HTT hx hm
                    go_quiet (fail)
                    go_wp2_with fail
                    go_meet
                    exact ⟨rfl, Lib.hid (box_cells wr _ _ 26), Lib.hid (below_drewN HA.out _)⟩
            case rest =>
            obtain ⟨rfl, HX, HW4⟩ := hcut
            clear d1 d2 d3 y1 y2 y3 HR HA W1 W2 W3 HTT
            obtain ⟨xb, hxb⟩ : ∃ q, wr.heap.size = q := ⟨_, rfl⟩
            rw [hxb] at HX ⊢
            clear hxb
            go_wp2
            go_loopw [150] (fun kk wk => ∃ k : Nat, k ≤ n ∧ kk = .int .i64 k ∧ Hid (wk.cell? ⟨xb, 0, none⟩ = some (.int .i8 X) ∧ wk.cell? ⟨xb, 1, none⟩ = some (.int .i64 Y)) ∧ Hid (Below w3.heap.size w3 wk)) (fun kk _ => n - (intOf kk).toNat)
            case atStart => exact ⟨0, Nat.zero_le _, rfl, HX, HW4⟩
            case round =>
              clear HX HW4
              obtain ⟨m, hm, rfl, HX, HW4⟩ := hrel
              by_cases mlt : m < n
              · have m0 : (0 : Int) ≤ (m : Int) := by omega
                have m1 : (m : Int) < (n : Int) := by omega
                have W2 := Lib.hid (N22.out.keep HW4.out)
                have z1 := W2.out.net.row i ilt
                have z2 := (W2.out.net.cells i ilt).inf m mlt
                have z3 := (W2.out.net.cells i ilt).num m mlt
                have z4 := W2.out.net.row m mlt
                have z5 := (W2.out.net.cells m mlt).inf j jlt
                have z6 := (W2.out.net.cells m mlt).num j jlt
                have HTR := Lib.hid (HC.out.tri i j m ilt jlt mlt)
                have HP := Lib.hid (HWC.out i m ilt mlt)
                have HQ := Lib.hid (HWC.out m j mlt jlt)
                obtain ⟨P, hP⟩ : ∃ P, infOf (C i m) = P := ⟨_, rfl⟩
                obtain ⟨Q, hQ⟩ : ∃ P, numOf (C i m) = P := ⟨_, rfl⟩
                obtain ⟨R, hR⟩ : ∃ P, infOf (C m j) = P := ⟨_, rfl⟩
                obtain ⟨S, hS⟩ : ∃ P, numOf (C m j) = P := ⟨_, rfl⟩
                rw [hP] at z2
                rw [hQ] at z3
                rw [hR] at z5
                rw [hS] at z6
                have HP0 := Lib.hid hP
                have HQ0 := Lib.hid hQ
                have HR0 := Lib.hid hR
                have HS0 := Lib.hid hS
                clear hP hQ hR hS
                go_upto_region 22 with fail
                go_cut [16, 17] (fun s16 s17 wx => ∃ xa xc : Nat, s16 = .pointer (some ⟨xa, 0, none⟩) ∧ s17 = .pointer (some ⟨xc, 0, none⟩) ∧ Hid (Boxes wx xa xc P Q R S) ∧ Hid (Below wr.heap.size wr wx))
                case first =>
                  generalize b2 i = bi at *
                  generalize p2 i = pi at *
                  generalize c2 i = ci at *
                  generalize b2 m = bm at *
                  generalize p2 m = pm at *
                  generalize c2 m = cm at *
                  have ne1 := World.new_ne wr _ z1
                  have ne2 := World.new_ne wr _ z2
                  have ne3 := World.new_ne wr _ z3
                  have ne4 := World.new_ne wr _ z4
                  have ne5 := World.new_ne wr _ z5
                  have ne6 := World.new_ne wr _ z6
                  go_region_held3 (fun w' => w'.cell? ⟨g2, o2 + i, none⟩ = some (.slice (some ⟨bi, pi, none⟩) n ci) ∧ w'.cell? ⟨bi, pi + m * 2, none⟩ = some (.int .i8 P) ∧ w'.cell? ⟨bi, pi + m * 2 + 1, none⟩ = some (.int .i64 Q) ∧ w'.cell? ⟨g2, o2 + m, none⟩ = some (.slice (some ⟨bm, pm, none⟩) n cm) ∧ w'.cell? ⟨bm, pm + j * 2, none⟩ = some (.int .i8 R) ∧ w'.cell? ⟨bm, pm + j * 2 + 1, none⟩ = some (.int .i64 S)) (go_keep) (fail)
                  all_goals (go_wp2_with fail; go_meet)
                  all_goals first
                    | exact ⟨wr.heap.size, wr.heap.size + 1, rfl, rfl, Lib.hid (boxes_ab wr P Q R S).out.drew, Lib.hid (boxes_below wr P Q R S).out.drew⟩
                    | exact ⟨wr.heap.size + 1, wr.heap.size, rfl, rfl, Lib.hid (boxes_ba wr P Q R S).out.drew, Lib.hid (boxes_below wr R S P Q).out.drew⟩
                case rest =>
                clear z1 z2 z3 z4 z5 z6 W2
                obtain ⟨xa, xc, rfl, rfl, HBX, HWX⟩ := hcut
                have HX5 := Lib.hid (And.intro (cell_keep HX.out.1 HWX.out) (cell_keep HX.out.2 HWX.out))
                have HW5 := Lib.hid (HW4.out.trans (HWX.out.mono HW4.out.size))
                obtain ⟨q1, q2, q3, q4⟩ := HBX.out
                have q5 := HX5.out.1
                have q6 := HX5.out.2
                clear HX HW4 HWX HBX
                have tr := HTR.out
                cases hp : C i m with
                | none =>
                  obtain rfl : (1 : Int) = P := by rw [← HP0.out, hp]; rfl
                  clear HP0 HQ0 HR0 HS0 tr HTR HP HQ hp
                  go_wp2
                  go_roundw
                  case rel => exact ⟨m + 1, by omega, by go_num, HX5, HW5⟩
                  case measure => simp [intOf]; omega
                | some pp =>
                  obtain rfl : (0 : Int) = P := by rw [← HP0.out, hp]; rfl
                  obtain rfl : pp = Q := by rw [← HQ0.out, hp]; rfl
                  cases hq : C m j with
                  | none =>
                    obtain rfl : (1 : Int) = R := by rw [← HR0.out, hq]; rfl
                    clear HP0 HQ0 HR0 HS0 tr HTR HP HQ hp hq
                    go_wp2
                    go_roundw
                    case rel => exact ⟨m + 1, by omega, by go_num, HX5, HW5⟩
                    case measure => simp [intOf]; omega
                  | some qq =>
                    obtain rfl : (0 : Int) = R := by rw [← HR0.out, hq]; rfl
                    obtain rfl : qq = S := by rw [← HS0.out, hq]; rfl
                    have wp := HP.out
                    have wq := HQ.out
                    rw [hp] at wp tr
                    rw [hq] at wq tr
                    simp only [Bd.within] at wp wq
                    cases hr : C i j with
                    | none => rw [hr] at tr; exact absurd tr (by simp [Bd.le, Bd.add])
                    | some rr =>
                      rw [hr] at tr
                      simp only [Bd.le, Bd.add] at tr
                      have ex : X = 0 := by rw [← HX0.out, hr]; rfl
                      have ey : Y = rr := by rw [← HY0.out, hr]; rfl
                      rw [ex] at q5
                      rw [ey] at q6
                      have ng : ¬ (pp + qq < rr) := by omega
                      obtain ⟨wp1, wp2⟩ := wp
                      obtain ⟨wq1, wq2⟩ := wq
                      clear HP0 HQ0 HR0 HS0 tr HTR HP HQ hp hq hr ex ey
                      go_wp2
                      go_roundw
                      case rel => exact ⟨m + 1, by omega, by go_num, HX5, HW5⟩
                      case measure => simp [intOf]; omega
              · go_wp2
                go_roundw
                case rel => exact ⟨j + 1, by omega, by go_num, HW4⟩
                case measure => simp [intOf]; omega
          · go_wp2
            go_roundw
            case rel => exact ⟨i + 1, by omega, by go_num, HR⟩
            case measure => simp [intOf]; omega
      · go_wp2_with (go_at_call 8; (with_reducible refine (awake_any _).mono ?_); rintro e w4 ⟨rfl, b4⟩)
        go_returns
        exact ⟨rfl, (HBB.out.trans (HR.out.mono HBB.out.size)).trans (b4.mono (Nat.le_trans HBB.out.size HR.out.size))⟩
end Go.Proofs.Ytnhbinghinlhgaa
