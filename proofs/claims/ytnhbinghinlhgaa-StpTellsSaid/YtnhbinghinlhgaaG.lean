/- Contracts: shorten: the ways through a variable. -/
import Derived.Test.YtnhbinghinlhgaaE
namespace Go.Proofs.Ytnhbinghinlhgaa
set_option linter.unusedVariables false
set_option linter.unusedSimpArgs false
open Go.ChangeShapes Go.WideShapes Go.ChangeAt Go.RowKit

theorem NetOwn.ext {w : World} {B g o n : Nat} {b p c : Nat → Nat} {M N : Mat} (h : NetOwn w B g o n b p c M) (e : ∀ a d, a < n → d < n → M a d = N a d) : NetOwn w B g o n b p c N :=
  ⟨⟨h.net.row, h.net.cap, fun i hi => ⟨fun j hj => by rw [← e i j hi hj]; exact (h.net.cells i hi).inf j hj, fun j hj => by rw [← e i j hi hj]; exact (h.net.cells i hi).num j hj⟩⟩, h.lo, h.hi, h.low, h.high, h.free, h.ne, h.inj⟩
theorem sum_bd (Q : Int) (hQ : Q ≤ 4611686018427387903) (a b : Bd) (ha : Bd.within Q a) (hb : Bd.within Q b) (w : World) :
    Calls Try.prog 37 #[.agg #[.int .i8 (infOf a), .int .i64 (numOf a)], .agg #[.int .i8 (infOf b), .int .i64 (numOf b)]] w fun e w' =>
      e = .returned (.tuple #[.agg #[.int .i8 (infOf (Bd.add a b)), .int .i64 (numOf (Bd.add a b))], .int .i64 0]) ∧ Below w.heap.size w w' := by
  cases a <;> cases b
  · exact sum_pp w
  · exact sum_pz _ w
  · exact sum_zp _ w
  · rename_i x y
    simp only [Bd.within] at ha hb
    exact sum_zz_ok x y w (by omega) (by omega) (by omega) (by omega) (by omega) (by omega)

theorem box_free (w : World) (x y : Value) (t : TypeId) (k : Nat) {w' : World} (b : Below (w.alloc (.cells #[x, y] t)).heap.size (w.alloc (.cells #[x, y] t)) w') : w'.frozen? ⟨w.heap.size, k, none⟩ = false := by
  have h : (w.alloc (.cells #[x, y] t)).heap[w.heap.size]? = some (.cells #[x, y] t) := by
    show (w.heap.push _)[w.heap.size]? = _
    simp
  rw [b.frozen (p := ⟨w.heap.size, k, none⟩) (by simp)]
  unfold World.frozen?
  rw [h]
  simp
theorem keep_alloc {w w' : World} {a : Addr} {v : Value} {o : Obj} (h : w.cell? a = some v) (b : Below (w.alloc o).heap.size (w.alloc o) w') : w'.cell? a = some v :=
  cell_keep (cell_keep h ((Below.refl _ w).alloc (Nat.le_refl _) o)) b
theorem box_two {w : World} {q : Nat} {x y u v : Value} (q1 : w.cell? ⟨q, 0, none⟩ = some u) (q2 : w.cell? ⟨q, 1, none⟩ = some v) :
    ((w.setCell ⟨q, 0, none⟩ x).setCell ⟨q, 1, none⟩ y).cell? ⟨q, 0, none⟩ = some x ∧ ((w.setCell ⟨q, 0, none⟩ x).setCell ⟨q, 1, none⟩ y).cell? ⟨q, 1, none⟩ = some y := by
  constructor
  · rw [cell_other (fun e => by have := (addr_eq e).2; omega)]
    exact cell_same q1
  · refine cell_same (u := v) ?_
    rw [cell_other (fun e => by have := (addr_eq e).2; omega)]
    exact q2
/-- A phase, done up to a place. -/
def mixK (k : Nat) (M : Mat) (i j : Nat) : Mat := fun a d => if a < i ∨ (a = i ∧ d < j) then fw k M a d else M a d

set_option maxRecDepth 100000 in
set_option maxHeartbeats 4000000 in
theorem shorten_net (Q : Int) (hQ : Q ≤ 4611686018427387903) (B g o n cp k : Nat) (b p c : Nat → Nat) (M : Mat) (hn : n ≤ 24) (hcp : n ≤ cp) (hcp' : cp ≤ 9223372036854775807) (hk : k < n) (hM : Within n Q M) (hd : M k k = some 0) (w : World) (hB : B ≤ w.heap.size) (hw : NetOwn w B g o n b p c M) :
    Calls Try.prog 30 #[.slice (some ⟨g, o, none⟩) n cp, .int .i64 k] w fun e w' => e = .returned (.tuple #[]) ∧ NetOwn w' B g o n b p c (fw k M) ∧ Below B w w' := by
  have HW := Lib.hid hw
  have HM := Lib.hid hM
  have HD := Lib.hid hd
  have HS := Lib.hid (fun i j hi hj => sum_bd Q hQ (M i k) (M k j) (hM i k hi hk) (hM k j hk hj))
  have k0 : (0 : Int) ≤ (k : Int) := by omega
  have k1 : (k : Int) < (n : Int) := by omega
  clear hw hM hd
  go_enter Try.func30, Try.ntmps30
  go_wp2
  go_loopw [10] (fun ii wr => ∃ i : Nat, i ≤ n ∧ ii = .int .i64 i ∧ Hid (NetOwn wr B g o n b p c (mixK k M i 0)) ∧ Hid (Below B w wr)) (fun ii _ => n - (intOf ii).toNat)
  case atStart => exact ⟨0, Nat.zero_le _, rfl, by
    have e : mixK k M 0 0 = M := by funext a d; unfold mixK; rw [if_neg (by omega)]
    rw [e]; exact HW, Lib.hid (Below.refl _ _)⟩
  case round =>
    obtain ⟨i, hi, rfl, HN, HB⟩ := hrel
    by_cases hlt : i < n
    · go_wp2
      go_loopw [15] (fun jj wr => ∃ j : Nat, j ≤ n ∧ jj = .int .i64 j ∧ Hid (NetOwn wr B g o n b p c (mixK k M i j)) ∧ Hid (Below B w wr)) (fun jj _ => n - (intOf jj).toNat)
      case atStart => exact ⟨0, Nat.zero_le _, rfl, HN, HB⟩
      case round =>
        clear HN HB
        obtain ⟨j, hj, rfl, HN, HB⟩ := hrel
        by_cases jlt : j < n
        · have i0 : (0 : Int) ≤ (i : Int) := by omega
          have i1 : (i : Int) < (n : Int) := by omega
          have j0 : (0 : Int) ≤ (j : Int) := by omega
          have j1 : (j : Int) < (n : Int) := by omega
          have e1 : mixK k M i j i k = M i k := by
            unfold mixK fw; rw [HD.out, Bd.add_zero, Bd.low_self]; split <;> rfl
          have e2 : mixK k M i j k j = M k j := by
            unfold mixK fw; rw [HD.out, Bd.zero_add, Bd.low_self]; split <;> rfl
          have e3 : mixK k M i j i j = M i j := by
            unfold mixK; rw [if_neg (by omega)]
          have c1 := HN.out.net.row i hlt
          have c2 := HN.out.net.row k hk
          have c3 := (HN.out.net.cells i hlt).inf k hk
          have c4 := (HN.out.net.cells i hlt).num k hk
          have c5 := (HN.out.net.cells k hk).inf j jlt
          have c6 := (HN.out.net.cells k hk).num j jlt
          rw [e1] at c3 c4
          rw [e2] at c5 c6
          have E3 := Lib.hid e3
          clear e1 e2 e3
          have SM := Lib.hid (HS.out i j hlt jlt)
          obtain ⟨x1, hx1⟩ : ∃ q, infOf (M i k) = q := ⟨_, rfl⟩
          obtain ⟨y1, hy1⟩ : ∃ q, numOf (M i k) = q := ⟨_, rfl⟩
          obtain ⟨x2, hx2⟩ : ∃ q, infOf (M k j) = q := ⟨_, rfl⟩
          obtain ⟨y2, hy2⟩ : ∃ q, numOf (M k j) = q := ⟨_, rfl⟩
          obtain ⟨sm, hsm⟩ : ∃ q, Bd.add (M i k) (M k j) = q := ⟨_, rfl⟩
          obtain ⟨sx, hsx⟩ : ∃ q, infOf sm = q := ⟨_, rfl⟩
          obtain ⟨sy, hsy⟩ : ∃ q, numOf sm = q := ⟨_, rfl⟩
          rw [hx1, hy1, hx2, hy2, hsm, hsx, hsy] at SM
          rw [hx1] at c3
          rw [hy1] at c4
          rw [hx2] at c5
          rw [hy2] at c6
          have HSM := Lib.hid hsm
          have HSX := Lib.hid hsx
          have HSY := Lib.hid hsy
          clear hx1 hy1 hx2 hy2 hsm hsx hsy
          go_upto_region 6 with fail
          go_cut [6, 7] (fun s6 s7 wx => ∃ bx : Nat, s6 = .pointer (some ⟨bx, 0, none⟩) ∧ s7 = .int .i64 0 ∧ Hid (wx.cell? ⟨bx, 0, none⟩ = some (.int .i8 sx) ∧ wx.cell? ⟨bx, 1, none⟩ = some (.int .i64 sy)) ∧ Hid (NetOwn wx B g o n b p c (mixK k M i j)) ∧ Hid (Below B w wx))
          case first =>
            generalize b i = bi at *
            generalize p i = pi at *
            generalize c i = ci at *
            generalize b k = bk at *
            generalize p k = pk at *
            generalize c k = ck at *
            have ne1 := World.new_ne wr _ c1
            have ne2 := World.new_ne wr _ c2
            have ne3 := World.new_ne wr _ c3
            have ne4 := World.new_ne wr _ c4
            have ne5 := World.new_ne wr _ c5
            have ne6 := World.new_ne wr _ c6
            go_region_held3 (fun w' => w'.cell? ⟨g, o + i, none⟩ = some (.slice (some ⟨bi, pi, none⟩) n ci) ∧ w'.cell? ⟨g, o + k, none⟩ = some (.slice (some ⟨bk, pk, none⟩) n ck) ∧ w'.cell? ⟨bi, pi + k * 2, none⟩ = some (.int .i8 x1) ∧ w'.cell? ⟨bi, pi + k * 2 + 1, none⟩ = some (.int .i64 y1) ∧ w'.cell? ⟨bk, pk + j * 2, none⟩ = some (.int .i8 x2) ∧ w'.cell? ⟨bk, pk + j * 2 + 1, none⟩ = some (.int .i64 y2)) (first | exact ⟨m1, m2, m3, m4, m5, m6⟩ | go_keep)
              ((go_at_call 37; (with_reducible refine (SM.out _).mono ?_); rintro e w1 ⟨rfl, b1⟩; (first | have m1 := cell_keep c1 (below_of (w := wr) b1 rfl rfl rfl rfl) | have m1 := keep_alloc c1 (below_of (w := (wr.alloc (.cells #[.int .i8 0, .int .i64 0] 26))) b1 rfl rfl rfl rfl)); (first | have m2 := cell_keep c2 (below_of (w := wr) b1 rfl rfl rfl rfl) | have m2 := keep_alloc c2 (below_of (w := (wr.alloc (.cells #[.int .i8 0, .int .i64 0] 26))) b1 rfl rfl rfl rfl)); (first | have m3 := cell_keep c3 (below_of (w := wr) b1 rfl rfl rfl rfl) | have m3 := keep_alloc c3 (below_of (w := (wr.alloc (.cells #[.int .i8 0, .int .i64 0] 26))) b1 rfl rfl rfl rfl)); (first | have m4 := cell_keep c4 (below_of (w := wr) b1 rfl rfl rfl rfl) | have m4 := keep_alloc c4 (below_of (w := (wr.alloc (.cells #[.int .i8 0, .int .i64 0] 26))) b1 rfl rfl rfl rfl)); (first | have m5 := cell_keep c5 (below_of (w := wr) b1 rfl rfl rfl rfl) | have m5 := keep_alloc c5 (below_of (w := (wr.alloc (.cells #[.int .i8 0, .int .i64 0] 26))) b1 rfl rfl rfl rfl)); (first | have m6 := cell_keep c6 (below_of (w := wr) b1 rfl rfl rfl rfl) | have m6 := keep_alloc c6 (below_of (w := (wr.alloc (.cells #[.int .i8 0, .int .i64 0] 26))) b1 rfl rfl rfl rfl)); (try have q1 := cell_keep (box_cells wr (.int .i8 0) (.int .i64 0) 26).1 (below_of (w := wr.alloc (.cells #[.int .i8 0, .int .i64 0] 26)) b1 rfl rfl rfl rfl)); (try have q2 := cell_keep (box_cells wr (.int .i8 0) (.int .i64 0) 26).2 (below_of (w := wr.alloc (.cells #[.int .i8 0, .int .i64 0] 26)) b1 rfl rfl rfl rfl)); (try have q3 := box_free wr (.int .i8 0) (.int .i64 0) 26 0 (below_of (w := wr.alloc (.cells #[.int .i8 0, .int .i64 0] 26)) b1 rfl rfl rfl rfl)); (try have q4 := box_free wr (.int .i8 0) (.int .i64 0) 26 1 (below_of (w := wr.alloc (.cells #[.int .i8 0, .int .i64 0] 26)) b1 rfl rfl rfl rfl))))
            · have bb := (below_of (w := wr) b1 rfl rfl rfl rfl).alloc (by have := b1.size; simpa using this) (.cells #[.int .i8 sx, .int .i64 sy] 26)
              go_wp2_with fail
              go_meet
              exact ⟨w1.heap.size, rfl, rfl, Lib.hid (box_cells w1 _ _ 26), Lib.hid (HN.out.keep bb), Lib.hid (HB.out.trans (bb.mono (Nat.le_trans hB HB.out.size)))⟩
            · have bb := (((((Below.refl _ wr).alloc (Nat.le_refl _) (.cells #[.int .i8 0, .int .i64 0] 26)).trans ((below_of (w := (wr.alloc (.cells #[.int .i8 0, .int .i64 0] 26))) b1 rfl rfl rfl rfl).mono (by simp))).setCell (p := ⟨wr.heap.size, 0, none⟩) (Nat.le_refl _) (.int .i8 sx)).setCell (p := ⟨wr.heap.size, 1, none⟩) (Nat.le_refl _) (.int .i64 sy))
              go_wp2_with fail
              go_meet
              exact ⟨wr.heap.size, rfl, rfl, Lib.hid (box_two q1 q2), Lib.hid (HN.out.keep bb), Lib.hid (HB.out.trans (bb.mono (Nat.le_trans hB HB.out.size)))⟩
          case rest =>
          clear HN HB c1 c2 c3 c4 c5 c6 SM
          obtain ⟨bx, rfl, rfl, HX, HN, HB⟩ := hcut
          have d1 := HX.out.1
          have d2 := HX.out.2
          have d3 := HN.out.net.row i hlt
          have d4 := (HN.out.net.cells i hlt).inf j jlt
          have d5 := (HN.out.net.cells i hlt).num j jlt
          rw [E3.out] at d4 d5
          obtain ⟨x3, hx3⟩ : ∃ q, infOf (M i j) = q := ⟨_, rfl⟩
          obtain ⟨y3, hy3⟩ : ∃ q, numOf (M i j) = q := ⟨_, rfl⟩
          have L0 := less_bd sm (M i j)
          rw [HSX.out, HSY.out, hx3, hy3] at L0
          rw [hx3] at d4
          rw [hy3] at d5
          obtain ⟨bi, hbi⟩ : ∃ q, b i = q := ⟨_, rfl⟩
          obtain ⟨pi, hpi⟩ : ∃ q, p i = q := ⟨_, rfl⟩
          obtain ⟨ci, hci⟩ : ∃ q, c i = q := ⟨_, rfl⟩
          rw [hbi, hpi, hci] at d3
          rw [hbi, hpi] at d4 d5
          have HBI := Lib.hid hbi
          have HPI := Lib.hid hpi
          clear hbi hpi hci hx3 hy3
          have FW : Hid (fw k M i j = Bd.low (M i j) sm) := Lib.hid (by unfold fw; rw [HSM.out])
          cases hq : Bd.lt sm (M i j)
          · have HE : Hid (mixK k M i (j + 1) = mixK k M i j) := Lib.hid (by
              funext a d
              simp only [mixK]
              by_cases z : a = i ∧ d = j
              · obtain ⟨rfl, rfl⟩ := z
                rw [if_pos (by omega), if_neg (by omega), FW.out]
                unfold Bd.low
                rw [hq]; rfl
              · by_cases z2 : a < i ∨ (a = i ∧ d < j)
                · rw [if_pos (by omega), if_pos z2]
                · rw [if_neg (by omega), if_neg z2])
            rw [hq] at L0
            have L := Lib.hid L0
            clear L0 hq
            go_upto_region 7 with fail
            go_region_held3 (fun w' => w'.cell? ⟨bx, 0, none⟩ = some (.int .i8 sx) ∧ w'.cell? ⟨bx, 1, none⟩ = some (.int .i64 sy) ∧ w'.cell? ⟨g, o + i, none⟩ = some (.slice (some ⟨bi, pi, none⟩) n ci) ∧ w'.cell? ⟨bi, pi + j * 2, none⟩ = some (.int .i8 x3) ∧ w'.cell? ⟨bi, pi + j * 2 + 1, none⟩ = some (.int .i64 y3)) (first | go_keep | exact ⟨cell_keep (by assumption) b4, cell_keep (by assumption) b4, cell_keep (by assumption) b4, cell_keep (by assumption) b4, cell_keep (by assumption) b4⟩)
              ((go_at_call 29; (with_reducible refine (L.out _).mono ?_); rintro e w4 ⟨rfl, b4⟩))
            have b5 := below_of (w := wc) b4 rfl rfl rfl rfl
            have HN4 := Lib.hid (HN.out.keep b5)
            have HB4 := Lib.hid (HB.out.trans (b5.mono (Nat.le_trans hB HB.out.size)))
            clear b4 b5 d1 d2 d3 d4 d5
            go_wp2
            go_roundw
            case rel => exact ⟨j + 1, by omega, by go_num, by rw [HE.out]; exact HN4, HB4⟩
            case measure => simp [intOf]; omega
          · have HE : Hid (mixK k M i (j + 1) = upd (mixK k M i j) i j sm) := Lib.hid (by
              funext a d
              simp only [mixK, upd]
              by_cases z : a = i ∧ d = j
              · rw [if_pos z]
                obtain ⟨rfl, rfl⟩ := z
                rw [if_pos (by omega), FW.out]
                unfold Bd.low
                rw [hq]; rfl
              · rw [if_neg z]
                by_cases z2 : a < i ∨ (a = i ∧ d < j)
                · rw [if_pos (by omega), if_pos z2]
                · rw [if_neg (by omega), if_neg z2])
            rw [hq] at L0
            have L := Lib.hid L0
            clear L0 hq
            go_upto_region 7 with fail
            go_region_held3 (fun w' => w'.cell? ⟨bx, 0, none⟩ = some (.int .i8 sx) ∧ w'.cell? ⟨bx, 1, none⟩ = some (.int .i64 sy) ∧ w'.cell? ⟨g, o + i, none⟩ = some (.slice (some ⟨bi, pi, none⟩) n ci) ∧ w'.cell? ⟨bi, pi + j * 2, none⟩ = some (.int .i8 x3) ∧ w'.cell? ⟨bi, pi + j * 2 + 1, none⟩ = some (.int .i64 y3)) (first | go_keep | exact ⟨cell_keep (by assumption) b4, cell_keep (by assumption) b4, cell_keep (by assumption) b4, cell_keep (by assumption) b4, cell_keep (by assumption) b4⟩)
              ((go_at_call 29; (with_reducible refine (L.out _).mono ?_); rintro e w4 ⟨rfl, b4⟩))
            have b5 := below_of (w := wc) b4 rfl rfl rfl rfl
            have HN4 := Lib.hid (HN.out.keep b5)
            have HB4 := Lib.hid (HB.out.trans (b5.mono (Nat.le_trans hB HB.out.size)))
            have m1 := cell_keep d1 b5
            have m2 := cell_keep d2 b5
            have m3 := cell_keep d3 b5
            have m4 := cell_keep d4 b5
            have m5 := cell_keep d5 b5
            have n1 : w4.frozen? ⟨bi, pi + j * 2, none⟩ = false := HBI.out ▸ HN4.out.free i hlt _
            have n2 : w4.frozen? ⟨bi, pi + j * 2 + 1, none⟩ = false := HBI.out ▸ HN4.out.free i hlt _
            have lo : B ≤ bi := by rw [← HBI.out]; exact HN4.out.low i hlt
            have HP := Lib.hid (HN4.out.put hlt jlt sm).drew
            have HPB := Lib.hid (((HB4.out.setCell (p := ⟨bi, pi + j * 2, none⟩) lo (.int .i8 sx)).setCell (p := ⟨bi, pi + j * 2 + 1, none⟩) lo (.int .i64 sy)).drew)
            clear b4 b5 d1 d2 d3 d4 d5
            go_wp2
            go_region
            go_wp2
            have hp := HP.out
            unfold storeB at hp
            rw [HSX.out, HSY.out, HBI.out, HPI.out] at hp
            have HP2 := Lib.hid hp
            clear hp
            go_roundw
            case rel => exact ⟨j + 1, by omega, by go_num, by rw [HE.out]; exact HP2, HPB⟩
            case measure => simp [intOf]; omega
        · have HE := Lib.hid (HN.out.ext (N := mixK k M (i + 1) 0) (fun a d ha hd => by
            simp only [mixK]
            by_cases z : a < i + 1
            · rw [if_pos (show a < i + 1 ∨ (a = i + 1 ∧ d < 0) from .inl z), if_pos (by omega)]
            · rw [if_neg (by omega), if_neg (by omega)]))
          go_wp2
          go_roundw
          case rel => exact ⟨i + 1, by omega, by go_num, HE, HB⟩
          case measure => simp [intOf]; omega
    · have HE := Lib.hid (HN.out.ext (N := fw k M) (fun a d ha hd => by
        simp only [mixK]
        rw [if_pos (by omega)]))
      go_wp2
      go_returns
      exact ⟨rfl, HE.out, HB.out⟩
end Go.Proofs.Ytnhbinghinlhgaa
