/- StpLower: the law. -/
import Derived.Test.YtnhbinghinlhgaaWays
namespace Go.Proofs.Ytnhbinghinlhgaa
set_option linter.unusedVariables false
set_option linter.unusedSimpArgs false
open Go.ChangeShapes Go.WideShapes Go.ChangeAt Go.RowKit

theorem RawIn.keep {w w' : World} {v : Value} (h : RawIn w v) (b : Below w.heap.size w w') : RawIn w' v := by
  rcases h with h | ⟨ad, cl, h, k⟩ | ⟨bl, ol, L, cl, I, J, X, Y, h, h1, h2, h3⟩
  · exact .inl h
  · exact .inr (.inl ⟨ad, cl, h, k⟩)
  · exact .inr (.inr ⟨bl, ol, L, cl, I, J, X, Y, h, h1, h2, h3.keep b⟩)
structure Four (w : World) (q : Nat) (x y u z : Value) : Prop where
  c0 : w.cell? ⟨q, 0, none⟩ = some x
  c1 : w.cell? ⟨q, 1, none⟩ = some y
  c2 : w.cell? ⟨q, 2, none⟩ = some u
  c3 : w.cell? ⟨q, 3, none⟩ = some z
theorem Four.keep {w w' : World} {q : Nat} {x y u z : Value} (h : Four w q x y u z) (b : Below w.heap.size w w') : Four w' q x y u z := ⟨cell_keep h.c0 b, cell_keep h.c1 b, cell_keep h.c2 b, cell_keep h.c3 b⟩
theorem box_four (w : World) (x y u z : Value) (t : TypeId) : Four (w.alloc (.cells #[x, y, u, z] t)) w.heap.size x y u z := by
  have h : (w.alloc (.cells #[x, y, u, z] t)).heap[w.heap.size]? = some (.cells #[x, y, u, z] t) := by
    show (w.heap.push _)[w.heap.size]? = _
    simp
  constructor <;> (unfold World.cell?; rw [h]; rfl)
theorem NetOwn.drewN {w : World} {B g o n : Nat} {b p c : Nat → Nat} {M : Mat} (h : NetOwn w B g o n b p c M) (m : Nat) : NetOwn (w.drewN m) B g o n b p c M :=
  ⟨⟨h.net.row, h.net.cap, fun i hi => ⟨(h.net.cells i hi).inf, (h.net.cells i hi).num⟩⟩, h.lo, h.hi, h.low, h.high, h.free, h.ne, h.inj⟩
theorem cell_drewN {w : World} {a : Addr} {v : Value} (h : w.cell? a = some v) (m : Nat) : (w.drewN m).cell? a = some v := h
/-- What a pair of variables shows, of a bound more. -/
def Down (C D : Mat) (n : Nat) : Prop := ∀ a b, a < n → b < n → Bd.le (D a b) (C a b)


set_option maxRecDepth 100000 in
set_option maxHeartbeats 8000000 in
theorem lower_law (a n : Nat) (ha : a < 256) (hn : n = 2 + a % 23) (v : Value) (x y u z : Int) (w : World) (hv : RawIn w v) (hx : I64' x) (hy : I64' y) (hz : I64' z) :
    Calls Try.prog 6 #[.int .u8 a, v, .agg #[.int .i64 x, .int .i64 y, .int .i8 u, .int .i64 z]] w fun e w' => e = .returned (.bool true) ∧ Below w.heap.size w w' := by
  have BT := Lib.hid (fun (w' : World) (hb : Below w.heap.size w w') => built_any (1 + a % 23) n (by omega) (by omega) v w' (hv.keep hb))
  have h0 : 0 < n := by omega
  have hn24 : n ≤ 24 := by omega
  have n1 : 1 ≤ n := by omega
  have n2 : ¬ ((n : Int) < 2) := by omega
  have n3 : (1 : Int) ≤ (n : Int) := by omega
  have n4 : (n : Int) ≤ 24 := by omega
  have n5 : ¬ n = 0 := by omega
  have n6 : ¬ (n : Int) = 0 := by omega
  have n7 : ((n : Int) == 0) = false := by simpa using n5
  have ea : (1 : Int) + (a : Int) % 23 = ((1 + a % 23 : Nat) : Int) := by omega
  obtain ⟨a1, ha1⟩ : ∃ a1, 1 + a % 23 = a1 := ⟨_, rfl⟩
  rw [ha1] at BT ea
  have ea2 : a1 < 256 := by omega
  obtain ⟨hx1, hx2⟩ := hx
  obtain ⟨hy1, hy2⟩ := hy
  obtain ⟨hz1, hz2⟩ := hz
  have e1 := i64_and255 x
  have e2 := i64_and255 y
  obtain ⟨q1, hq1⟩ := Int.eq_ofNat_of_zero_le (show 0 ≤ x % 256 by omega)
  obtain ⟨q2, hq2⟩ := Int.eq_ofNat_of_zero_le (show 0 ≤ y % 256 by omega)
  rw [hq1] at e1
  rw [hq2] at e2
  obtain ⟨i, hi⟩ : ∃ s, q1 % n = s := ⟨_, rfl⟩
  obtain ⟨j, hj⟩ : ∃ s, q2 % n = s := ⟨_, rfl⟩
  have ilt : i < n := by rw [← hi]; exact Nat.mod_lt _ n1
  have jlt : j < n := by rw [← hj]; exact Nat.mod_lt _ n1
  have g1 : (q1 : Int) % (n : Int) = (i : Int) := by omega
  have g2 : (q2 : Int) % (n : Int) = (j : Int) := by omega
  have g3 : (q1 : Int).tmod (n : Int) = (i : Int) := by rw [Int.tmod_eq_emod_of_nonneg (by omega)]; exact g1
  have g4 : (q2 : Int).tmod (n : Int) = (j : Int) := by rw [Int.tmod_eq_emod_of_nonneg (by omega)]; exact g2
  obtain ⟨r, e3⟩ : ∃ r, z.tmod 1001 = r := ⟨_, rfl⟩
  have r1 : -1000 ≤ r ∧ r ≤ 1000 := by
    rw [← e3]
    have := Int.tmod_lt_of_pos z (by decide : (0 : Int) < 1001)
    have := tmod_lo z
    omega
  obtain ⟨r1, r2⟩ := r1
  have i0 : (0 : Int) ≤ (i : Int) := by omega
  have i1 : (i : Int) < (n : Int) := by omega
  have j0 : (0 : Int) ≤ (j : Int) := by omega
  have j1 : (j : Int) < (n : Int) := by omega
  have BXC := box_four w (.int .i64 x) (.int .i64 y) (.int .i8 u) (.int .i64 z) 28
  clear hq1 hq2 hi hj ha hn hv ha1
  go_enter Try.func6, Try.ntmps6
  go_upto_region 4 with (go_at_call 20; (with_reducible refine (BT.out _ ((Below.refl _ w).alloc (Nat.le_refl _) _)).mono ?_); rintro e w1 ⟨M, hM, g, o, k, b, p, c, rfl, hk, hl, HN, HB⟩; have HM := Lib.hid hM; clear hM)
  have xc := BXC.keep HB.out
  obtain ⟨xc0, xc1, xc2, xc3⟩ := xc
  have HB0 := Lib.hid (((Below.refl _ w).alloc (Nat.le_refl _) (.cells #[.int .i64 x, .int .i64 y, .int .i8 u, .int .i64 z] 28)).trans (HB.out.mono (by simp)))
  have NB := Lib.hid (HN.out.lower (show w.heap.size ≤ _ by simp))
  clear HB HN BT BXC
  go_cut [8, 9] (fun s8 s9 wx => s8 = .int .i64 i ∧ s9 = .int .i64 j ∧ Hid (NetOwn wx w.heap.size g o n b p c M) ∧ Hid (Below w.heap.size w wx) ∧ Hid (wx.cell? ⟨w.heap.size, 3, none⟩ = some (.int .i64 z)))
  case first =>
    go_quiet (fail)
    go_wp2_with fail
    go_meet
    exact ⟨rfl, rfl, Lib.hid (NB.out.drewN _), Lib.hid (below_drewN HB0.out _), Lib.hid (cell_drewN xc3 _)⟩
  case rest =>
  clear xc0 xc1 xc2 xc3 NB HB0
  obtain ⟨rfl, rfl, NB, HB0, HZ⟩ := hcut
  have xc3 := HZ.out
  clear e1 e2 g1 g2 g3 g4 ea
  cases hij : ((i : Int) == (j : Int))
  · have CL := Lib.hid (close_1000 g o n k b p c M h0 hn24 hk hl (wide_1000 HM.out) wc NB.out.net)
    have HMP : Hid (Within n 1000 (put M i j (some r))) := Lib.hid (within_put (s := (i, j, some r)) HM.out ⟨ilt, jlt, r1, r2⟩)
    have SN := Lib.hid (fun (w' : World) (hb : Below wc.heap.size wc w') => set_net g o n k b p c M hn24 hk hl (fits_of HM.out (by decide)) i j ilt jlt (some r) (show Bd.within _ (some r) from ⟨by omega, by omega⟩) w' (NB.out.keep hb).net)
    have SN2 : Hid (∀ (w' : World), Below wc.heap.size wc w' → Calls Try.prog 14 #[.slice (some ⟨g, o, none⟩) n k, .int .i64 i, .int .i64 j, .agg #[.int .i8 0, .int .i64 r]] w' fun e w'' => MadeOk w' w'' n (put M i j (some r)) e) := SN
    have CP := Lib.hid (fun (g o k : Nat) (b p c : Nat → Nat) (hk : n ≤ k) (hl : k ≤ 9223372036854775807) (w : World) (hw : NetAt w g o n b p c (put M i j (some r))) => close_1000 g o n k b p c _ h0 hn24 hk hl (wide_1000 HMP.out) w hw)
    have HMO := Lib.hid (fun A' (e : closed n (put M i j (some r)) = some A') => closed_mono (put_le M i j (some r)) e)
    have HPO := Lib.hid (fun C (h : closed n M = some C) (e : closed n (put M i j (some r)) = none) => put_odd ilt jlt h e)
    have HPC := Lib.hid (fun C (e : closed n (put M i j (some r)) = some C) => closed_put ilt jlt e)
    have HWC := Lib.hid (fun C (e : closed n M = some C) => within_closed' hn24 HM.out e)
    have HWD := Lib.hid (fun C (e : closed n (put M i j (some r)) = some C) => within_closed' hn24 HMP.out e)
    clear SN HM HMP
    cases hc : closed n M with
    | none =>
      have hd : closed n (put M i j (some r)) = none := by
        cases hd : closed n (put M i j (some r)) with
        | none => rfl
        | some A' => obtain ⟨B', e, _⟩ := HMO.out A' hd; rw [hc] at e; cases e
      rw [hc] at CL
      rw [hd] at CP
      have CL2 : Hid (Calls Try.prog 17 #[.slice (some ⟨g, o, none⟩) n k] wc fun e w' => e = .returned (.tuple #[.slice none 0 0, .bool false, .int .i64 0]) ∧ Hid (Below wc.heap.size wc w')) := CL
      have CP2 : Hid (∀ (g o k : Nat) (b p c : Nat → Nat) (hk : n ≤ k) (hl : k ≤ 9223372036854775807) (w : World) (hw : NetAt w g o n b p c (put M i j (some r))), Calls Try.prog 17 #[.slice (some ⟨g, o, none⟩) n k] w fun e w' => e = .returned (.tuple #[.slice none 0 0, .bool false, .int .i64 0]) ∧ Hid (Below w.heap.size w w')) := CP
      clear CL CP hc hd HMO HPO HPC HWC HWD
      go_wp2_with (first
        | (go_at_call 17; (fail_if_success (have := HB2)); (with_reducible refine (CL2.out).mono ?_); rintro e w2 ⟨rfl, HB2⟩)
        | (go_at_call 14; (with_reducible refine (SN2.out _ HB2.out).mono ?_); rintro e w3 ⟨g3, o3, k3, b3, p3, c3, rfl, hk3, hl3, HN3, HB3⟩)
        | (go_at_call 17; (with_reducible refine (CP2.out _ _ _ _ _ _ hk3 hl3 _ HN3.out.net).mono ?_); rintro e w4 ⟨rfl, HB4⟩)
        | (go_at_call 8; (with_reducible refine (awake_any _).mono ?_); rintro e w5 ⟨rfl, b5⟩))
      go_returns
      exact ⟨rfl, HB0.out.trans ((HB2.out.trans ((HB3.out.trans ((HB4.out.trans (b5.mono HB4.out.size)).mono HB3.out.size)).mono HB2.out.size)).mono HB0.out.size)⟩
    | some C =>
      rw [hc] at CL
      have CL2 : Hid (Calls Try.prog 17 #[.slice (some ⟨g, o, none⟩) n k] wc fun e w' => ∃ g o k b p c, e = .returned (.tuple #[.slice (some ⟨g, o, none⟩) n k, .bool true, .int .i64 0]) ∧ n ≤ k ∧ k ≤ 9223372036854775807 ∧ Hid (NetOwn w' wc.heap.size g o n b p c C) ∧ Hid (Below wc.heap.size wc w')) := CL
      clear CL
      have SQ := Lib.hid (fun (g o k : Nat) (b p c : Nat → Nat) (M : Mat) (hk : n ≤ k) (hl : k ≤ 9223372036854775807) (w : World) (hw : NetAt w g o n b p c M) => square_net g o n k b p c M hn24 hk hl w hw)
      cases hd : closed n (put M i j (some r)) with
      | none =>
        rw [hd] at CP
        have CP2 : Hid (∀ (g o k : Nat) (b p c : Nat → Nat) (hk : n ≤ k) (hl : k ≤ 9223372036854775807) (w : World) (hw : NetAt w g o n b p c (put M i j (some r))), Calls Try.prog 17 #[.slice (some ⟨g, o, none⟩) n k] w fun e w' => e = .returned (.tuple #[.slice none 0 0, .bool false, .int .i64 0]) ∧ Hid (Below w.heap.size w w')) := CP
        obtain ⟨aa, hca, hneg⟩ := HPO.out C hc hd
        have HCA := Lib.hid hca
        have wa := HWC.out C hc j i jlt ilt
        rw [hca] at wa
        simp only [Bd.within] at wa
        obtain ⟨wa1, wa2⟩ := wa
        clear CP hc hd HMO HPO HPC HWC HWD hca
        go_upto_region 18 with (first
          | (go_at_call 17; (fail_if_success (have := HB2)); (with_reducible refine (CL2.out).mono ?_); rintro e w2 ⟨g2, o2, k2, b2, p2, c2, rfl, hk2, hl2, HN2, HB2⟩)
          | (go_at_call 14; (with_reducible refine (SN2.out _ HB2.out).mono ?_); rintro e w3 ⟨g3, o3, k3, b3, p3, c3, rfl, hk3, hl3, HN3, HB3⟩; have N23 := Lib.hid (HN2.out.keep HB3.out))
          | (go_at_call 17; (with_reducible refine (CP2.out _ _ _ _ _ _ hk3 hl3 _ HN3.out.net).mono ?_); rintro e w4 ⟨rfl, HB4⟩; have N24 := Lib.hid (N23.out.keep HB4.out))
          | (go_at_call 21; (with_reducible refine (SQ.out _ _ _ _ _ _ _ hk2 hl2 _ N24.out.net).mono ?_); rintro e w' ⟨rfl, rfl⟩))
        have d1 := N24.out.net.row j jlt
        have d2 := (N24.out.net.cells j jlt).inf i ilt
        have d3 := (N24.out.net.cells j jlt).num i ilt
        rw [HCA.out] at d2 d3
        simp only [infOf, numOf] at d2 d3
        generalize b2 j = bj at *
        generalize p2 j = pj at *
        generalize c2 j = cj at *
        have HBB := Lib.hid (HB0.out.trans ((HB2.out.trans ((HB3.out.trans (HB4.out.mono HB3.out.size)).mono HB2.out.size)).mono HB0.out.size))
        clear HB2 HB3 HB4 HN2 HN3 N23 N24 CL2 CP2 SN2
        go_wp2_with (go_at_call 8; (with_reducible refine (awake_any _).mono ?_); rintro e w5 ⟨rfl, b5⟩)
        go_returns
        exact ⟨rfl, (HBB.out.alloc HBB.out.size _).trans (b5.mono (HBB.out.alloc HBB.out.size _).size)⟩
      | some D =>
        rw [hd] at CP
        have CP2 : Hid (∀ (g o k : Nat) (b p c : Nat → Nat) (hk : n ≤ k) (hl : k ≤ 9223372036854775807) (w : World) (hw : NetAt w g o n b p c (put M i j (some r))), Calls Try.prog 17 #[.slice (some ⟨g, o, none⟩) n k] w fun e w' => ∃ g o k b p c, e = .returned (.tuple #[.slice (some ⟨g, o, none⟩) n k, .bool true, .int .i64 0]) ∧ n ≤ k ∧ k ≤ 9223372036854775807 ∧ Hid (NetOwn w' w.heap.size g o n b p c D) ∧ Hid (Below w.heap.size w w')) := CP
        obtain ⟨qq, hqa, hqb⟩ := HPC.out D hd
        have HQA := Lib.hid hqa
        have DN := Lib.hid (fun (a b : Nat) (la : a < n) (lb : b < n) => by
          obtain ⟨B', e, l⟩ := HMO.out D hd
          rw [hc] at e
          cases e
          exact (l a b la lb : Bd.le (D a b) (C a b)))
        clear CP hc hd HMO HPO HPC HWC HWD hqa
        go_upto_region 20 with (first
          | (go_at_call 17; (fail_if_success (have := HB2)); (with_reducible refine (CL2.out).mono ?_); rintro e w2 ⟨g2, o2, k2, b2, p2, c2, rfl, hk2, hl2, HN2, HB2⟩)
          | (go_at_call 14; (with_reducible refine (SN2.out _ HB2.out).mono ?_); rintro e w3 ⟨g3, o3, k3, b3, p3, c3, rfl, hk3, hl3, HN3, HB3⟩; have N23 := Lib.hid (HN2.out.keep HB3.out))
          | (go_at_call 17; (with_reducible refine (CP2.out _ _ _ _ _ _ hk3 hl3 _ HN3.out.net).mono ?_); rintro e w4 ⟨g4, o4, k4, b4, p4, c4, rfl, hk4, hl4, HN4, HB4⟩; have N24 := Lib.hid (N23.out.keep HB4.out))
          | (go_at_call 21; (with_reducible refine (SQ.out _ _ _ _ _ _ _ hk2 hl2 _ N24.out.net).mono ?_); rintro e w' ⟨rfl, rfl⟩)
          | (go_at_call 21; (with_reducible refine (SQ.out _ _ _ _ _ _ _ hk4 hl4 _ HN4.out.net).mono ?_); rintro e w' ⟨rfl, rfl⟩))
        have HBB := Lib.hid (HB0.out.trans ((HB2.out.trans ((HB3.out.trans (HB4.out.mono HB3.out.size)).mono HB2.out.size)).mono HB0.out.size))
        clear HB2 HB3 HB4 HN2 HN3 N23 CL2 CP2 SN2 SQ HB0 xc3
        go_wp2
        go_loopw [130] (fun ii wr => ∃ a : Nat, a ≤ n ∧ ii = .int .i64 a ∧ Hid (Below w4.heap.size w4 wr)) (fun ii _ => n - (intOf ii).toNat)
        case atStart => exact ⟨0, Nat.zero_le _, rfl, Lib.hid (Below.refl _ _)⟩
        case round =>
          obtain ⟨a, ha, rfl, HR⟩ := hrel
          by_cases alt : a < n
          · have a0 : (0 : Int) ≤ (a : Int) := by omega
            have a1 : (a : Int) < (n : Int) := by omega
            go_wp2
            go_loopw [135] (fun jj wr => ∃ b : Nat, b ≤ n ∧ jj = .int .i64 b ∧ Hid (Below w4.heap.size w4 wr)) (fun jj _ => n - (intOf jj).toNat)
            case atStart => exact ⟨0, Nat.zero_le _, rfl, HR⟩
            case round =>
              clear HR
              obtain ⟨b, hb, rfl, HR⟩ := hrel
              by_cases blt : b < n
              · have b0 : (0 : Int) ≤ (b : Int) := by omega
                have b1 : (b : Int) < (n : Int) := by omega
                have W2 := Lib.hid (N24.out.keep HR.out)
                have W4 := Lib.hid (HN4.out.keep HR.out)
                have DL := Lib.hid (DN.out a b alt blt)
                have x1 := W2.out.net.row a alt
                have x2 := (W2.out.net.cells a alt).inf b blt
                have x3 := (W2.out.net.cells a alt).num b blt
                have y1 := W4.out.net.row a alt
                have y2 := (W4.out.net.cells a alt).inf b blt
                have y3 := (W4.out.net.cells a alt).num b blt
                generalize b2 a = ba2 at *
                generalize p2 a = pa2 at *
                generalize c2 a = ca2 at *
                generalize b4 a = ba4 at *
                generalize p4 a = pa4 at *
                generalize c4 a = ca4 at *
                go_upto_region 26 with fail
                go_cut [198] (fun s wx => s = .bool false ∧ Hid (Below w4.heap.size w4 wx))
                case first =>
                  have le := DL.out
                  clear HQA DN DL
                  cases hx : D a b with
                  | none =>
                    have hm : C a b = none := by
                      cases hm : C a b with
                      | none => rfl
                      | some m => rw [hx, hm] at le; exact absurd le (by simp [Bd.le])
                    rw [hx] at y2 y3
                    rw [hm] at x2 x3
                    simp only [infOf, numOf] at x2 x3 y2 y3
                    clear le hx hm
                    go_quiet (fail)
                    go_wp2_with fail
                    go_meet
                    exact ⟨rfl, Lib.hid (below_drewN HR.out _)⟩
                  | some dd =>
                    rw [hx] at y2 y3
                    cases hm : C a b with
                    | none =>
                      rw [hm] at x2 x3
                      simp only [infOf, numOf] at x2 x3 y2 y3
                      clear le hx hm
                      go_quiet (fail)
                      go_wp2_with fail
                      go_meet
                      exact ⟨rfl, Lib.hid (below_drewN HR.out _)⟩
                    | some m =>
                      rw [hm] at x2 x3
                      have lm : ¬ dd > m := by rw [hx, hm] at le; simp only [Bd.le] at le; omega
                      have lm2 : ¬ m < dd := lm
                      simp only [infOf, numOf] at x2 x3 y2 y3
                      clear le hx hm
                      go_quiet (fail)
                      go_wp2_with fail
                      go_meet
                      exact ⟨rfl, Lib.hid (below_drewN HR.out _)⟩
                case rest =>
                clear HR x1 x2 x3 y1 y2 y3 W2 W4
                obtain ⟨rfl, HR⟩ := hcut
                go_wp2
                go_roundw
                case rel => exact ⟨b + 1, by omega, by go_num, HR⟩
                case measure => simp [intOf]; omega
              · go_wp2
                go_roundw
                case rel => exact ⟨a + 1, by omega, by go_num, HR⟩
                case measure => simp [intOf]; omega
          · have W4 := Lib.hid (HN4.out.keep HR.out)
            have y1 := W4.out.net.row i ilt
            have y2 := (W4.out.net.cells i ilt).inf j jlt
            have y3 := (W4.out.net.cells i ilt).num j jlt
            rw [HQA.out] at y2 y3
            simp only [infOf, numOf] at y2 y3
            generalize b4 i = bi4 at *
            generalize p4 i = pi4 at *
            generalize c4 i = ci4 at *
            clear HQA DN
            go_wp2_with (go_at_call 8; (with_reducible refine (awake_any _).mono ?_); rintro e w5 ⟨rfl, b5⟩)
            go_returns
            exact ⟨rfl, (HBB.out.trans (HR.out.mono HBB.out.size)).trans (b5.mono (Nat.le_trans HBB.out.size HR.out.size))⟩
  · have HB1 := HB0
    go_wp2_with (go_at_call 8; (with_reducible refine (awake_any _).mono ?_); rintro e w5 ⟨rfl, b5⟩)
    go_returns
    exact ⟨rfl, HB0.out.trans (b5.mono HB0.out.size)⟩
end Go.Proofs.Ytnhbinghinlhgaa
