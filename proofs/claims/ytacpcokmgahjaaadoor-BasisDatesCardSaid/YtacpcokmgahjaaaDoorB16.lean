/- BasisDates: the walk. -/
import Derived.Test.YtacpcokmgahjaaaDoorB14
namespace Go.Proofs.YtacpcokmgahjaaaDoor
set_option linter.unusedVariables false
set_option linter.unusedSimpArgs false
open Go.ChangeShapes Go.WideShapes Go.ChangeAt Go.RowKit
def iX : Nat → Nat
  | 0 => 1
  | 1 => 3
  | 2 => 4
  | _ => 5
def iV (y m n : Int) : Nat → Int
  | 0 => n
  | 1 => (y - 1970) * 12 + m - 1
  | 2 => ((y - 1970) * 12 + m - 1) / 3
  | _ => y - 1970
theorem iX_lt (j : Nat) : iX j < 6 := by
  unfold iX; split <;> decide
theorem iV_fit {y m d : Int} (h : Cal.Valid y m d) (j : Nat) : (-1090000000 ≤ iV y m (Cal.num y m d) j ∧ iV y m (Cal.num y m d) j ≤ 1090000000) ∧ bB (iX j) (iV y m (Cal.num y m d) j) ≤ Cal.num y m d ∧ Cal.num y m d ≤ bB (iX j) (iV y m (Cal.num y m d) j + 1) - 1 := by
  obtain ⟨m1, m2⟩ := h.month
  obtain ⟨a, b, c1, c2⟩ := h.within
  have y1 := h.y1
  have y2 := h.y2
  have rg := h.range
  have e1 : dayS ((y - 1970) * 12 + m - 1) = Cal.start y + Cal.bef y m := by
    unfold dayS Cal.num
    rw [show ((y - 1970) * 12 + m - 1) / 12 = y - 1970 by omega, show ((y - 1970) * 12 + m - 1) % 12 + 1 = m by omega, show 1970 + (y - 1970) = y by omega]
    omega
  have e2 : dayS ((y - 1970) * 12 + m) = Cal.start y + Cal.bef y (m + 1) := by
    unfold dayS Cal.num
    by_cases z : m = 12
    · subst z
      have := Cal.start_succ y
      have := Cal.bef_last y
      have := Cal.bef_one (y + 1)
      rw [show ((y - 1970) * 12 + 12) / 12 = y - 1970 + 1 by omega, show ((y - 1970) * 12 + 12) % 12 + 1 = 1 by omega, show 1970 + (y - 1970 + 1) = y + 1 by omega, show (12 : Int) + 1 = 13 by omega]
      omega
    · rw [show ((y - 1970) * 12 + m) / 12 = y - 1970 by omega, show ((y - 1970) * 12 + m) % 12 + 1 = m + 1 by omega, show 1970 + (y - 1970) = y by omega]
      omega
  generalize Cal.num y m d = n at a b c1 c2 rg ⊢
  have mono := fun p q (h : p ≤ q) => bB_le 3 (a := p) (b := q) h
  match j with
  | 0 => exact ⟨⟨by show -1090000000 ≤ n; omega, by show n ≤ 1090000000; omega⟩, by show n ≤ n; omega, by show n ≤ n + 1 - 1; omega⟩
  | 1 =>
    refine ⟨⟨by show -1090000000 ≤ (y - 1970) * 12 + m - 1; omega, by show (y - 1970) * 12 + m - 1 ≤ 1090000000; omega⟩, ?_, ?_⟩
    · show dayS ((y - 1970) * 12 + m - 1) ≤ n; omega
    · show n ≤ dayS ((y - 1970) * 12 + m - 1 + 1) - 1
      rw [show (y - 1970) * 12 + m - 1 + 1 = (y - 1970) * 12 + m by omega]; omega
  | 2 =>
    refine ⟨⟨by show -1090000000 ≤ ((y - 1970) * 12 + m - 1) / 3; omega, by show ((y - 1970) * 12 + m - 1) / 3 ≤ 1090000000; omega⟩, ?_, ?_⟩
    · have : dayS (3 * (((y - 1970) * 12 + m - 1) / 3)) ≤ dayS ((y - 1970) * 12 + m - 1) := mono _ _ (by omega)
      show dayS (3 * (((y - 1970) * 12 + m - 1) / 3)) ≤ n; omega
    · have : dayS ((y - 1970) * 12 + m) ≤ dayS (3 * (((y - 1970) * 12 + m - 1) / 3 + 1)) := mono _ _ (by omega)
      show n ≤ dayS (3 * (((y - 1970) * 12 + m - 1) / 3 + 1)) - 1; omega
  | _ + 3 =>
    refine ⟨⟨by show -1090000000 ≤ y - 1970; omega, by show y - 1970 ≤ 1090000000; omega⟩, ?_, ?_⟩
    · have : dayS (12 * (y - 1970)) ≤ dayS ((y - 1970) * 12 + m - 1) := mono _ _ (by omega)
      show dayS (12 * (y - 1970)) ≤ n; omega
    · have : dayS ((y - 1970) * 12 + m) ≤ dayS (12 * (y - 1970 + 1)) := mono _ _ (by omega)
      show n ≤ dayS (12 * (y - 1970 + 1)) - 1; omega
/-- The calendar and the list of what is asked, through the loop. -/
structure Lp (w0 w : World) (c k g b sl : Nat) (cs : Array Value) : Prop where
  bw : Below w0.heap.size w0 w
  cal : CalOk w c k g b
  s : w.heap[sl]? = some (.cells cs 46 (0, 0))
  n1 : sl ≠ k
  n2 : sl ≠ g
  b1 : w0.heap.size ≤ k
  b2 : w0.heap.size ≤ g
theorem Lp.keep {w0 w w' : World} {c k g b sl : Nat} {cs : Array Value} (h : Lp w0 w c k g b sl cs) (q : Below w.heap.size w w') : Lp w0 w' c k g b sl cs :=
  ⟨h.bw.trans (q.mono h.bw.size), h.cal.keep q, (q.block sl (Array.getElem?_eq_some_iff.1 h.s).1).trans h.s, h.n1, h.n2, h.b1, h.b2⟩
theorem Lp.form {w0 w w' : World} {c k g b sl : Nat} {cs : Array Value} (h : Lp w0 w c k g b sl cs) (hc : CalOk w' c k g (b + 1)) (q : But2 k g w w') : Lp w0 w' c k g (b + 1) sl cs :=
  ⟨h.bw.trans (q.below h.b1 h.b2 h.bw.size), hc, (q.old sl (Array.getElem?_eq_some_iff.1 h.s).1 h.n1 h.n2).trans h.s, h.n1, h.n2, h.b1, h.b2⟩
structure Gw (w0 w : World) (b : Nat) (co : Option Addr) (cc : Nat) (oo : Option Addr) (oc l o : Nat) (A B : Int) : Prop where
  bk : Bk 2 w0 w b co cc oo oc
  g0 : OneAt w l o A B
theorem Gw.keep {w0 w w' : World} {b cc oc l o : Nat} {co oo : Option Addr} {A B : Int} (h : Gw w0 w b co cc oo oc l o A B) (q : Below w.heap.size w w') : Gw w0 w' b co cc oo oc l o A B := ⟨h.bk.keep q, h.g0.keep q⟩
theorem CalOk.lt {w : World} {c k g b : Nat} (h : CalOk w c k g b) : k < w.heap.size ∧ g < w.heap.size := by
  obtain ⟨g0, mm, st, nn, hC, _, _⟩ := h
  obtain ⟨cu, hcu, _⟩ := hC.gb
  exact ⟨(Array.getElem?_eq_some_iff.1 hC.kb).1, (Array.getElem?_eq_some_iff.1 hcu).1⟩
set_option maxRecDepth 8000 in
set_option maxHeartbeats 4000000 in
theorem basisDates_walk (y m d : Int) (w : World) (hT : Tab w) :
    Calls Tryd.prog 5 #[.int .i64 y, .int .i64 m, .int .i64 d] w fun e w' => e = .returned (.bool true) ∧ Below w.heap.size w w' := by
  have HT := Lib.hid hT
  clear hT
  by_cases hv : Cal.Valid y m d
  rotate_left 1
  · have HD := Lib.hid (days_not y m d w HT.out hv)
    have HA := Lib.hid (awake_any w HT.out)
    clear hv
    go_enter Tryd.func5, Tryd.ntmps5
    go_wp2_with fail
    (with_reducible refine HD.out.mono ?_)
    rintro e w1 ⟨rfl, rfl⟩
    go_wp2_with fail
    (with_reducible refine HA.out.mono ?_)
    rintro e w1 ⟨rfl, q⟩
    go_wp2
    go_returns
    exact ⟨rfl, q⟩
  · have HD := Lib.hid (days_valid y m d w HT.out hv)
    have y1 := hv.y1
    have y2 := hv.y2
    obtain ⟨m1, m2⟩ := hv.month
    have HV := Lib.hid (fun j => iV_fit hv j)
    have rg := hv.range
    clear hv
    obtain ⟨n, hn⟩ : ∃ z, Cal.num y m d = z := ⟨_, rfl⟩
    rw [hn] at HD rg HV
    clear hn
    go_enter Tryd.func5, Tryd.ntmps5
    go_wp2_with fail
    (with_reducible refine HD.out.mono ?_)
    rintro e w1 ⟨rfl, rfl⟩
    go_wp2_with fail
    (with_reducible refine (new_cal w).mono ?_)
    rintro e w1 ⟨c, k, g, rfl, HC, HL, HB⟩
    go_upto_region 7 with fail
    have hq3 : ((y - 1970) * 12 + m - 1 - (m - 1) % 3).tdiv 3 = ((y - 1970) * 12 + m - 1) / 3 := by
      have h := @Int.tdiv_eq_ediv ((y - 1970) * 12 + m - 1 - (m - 1) % 3) 3
      rw [h]
      split
      · omega
      · exfalso; omega
    rw [hq3]
    clear hq3
    obtain ⟨cs, hcs⟩ : ∃ z : Array Value, #[.string ⟨#[100, 97, 121]⟩, .int .i64 n, .string ⟨#[109, 111, 110, 116, 104]⟩, .int .i64 ((y - 1970) * 12 + m - 1), .string ⟨#[113, 117, 97, 114, 116, 101, 114]⟩, .int .i64 (((y - 1970) * 12 + m - 1) / 3), .string ⟨#[121, 101, 97, 114]⟩, .int .i64 (y - 1970)] = z := ⟨_, rfl⟩
    obtain ⟨sl, hsl⟩ : ∃ z, w1.heap.size = z := ⟨_, rfl⟩
    obtain ⟨w2, hw2⟩ : ∃ z, w1.alloc (.cells cs 46) = z := ⟨_, rfl⟩
    have HP : Hid (Lp w w2 c k g 0 sl cs) := Lib.hid (by
      have KA : Below w1.heap.size w1 w2 := by rw [← hw2]; exact (Below.refl _ w1).alloc (Nat.le_refl _) _
      obtain ⟨g0, mm, st, nn, hC, _, _⟩ := HC.out
      obtain ⟨cu, hcu, _⟩ := hC.gb
      have k1 := (Array.getElem?_eq_some_iff.1 hC.kb).1
      have k2 := (Array.getElem?_eq_some_iff.1 hcu).1
      exact ⟨HB.out.trans (KA.mono HB.out.size), HC.out.keep KA, by rw [← hw2, ← hsl]; exact al_new w1 _, by omega, by omega, HL.out.2.1, HL.out.2.2⟩)
    have HE : Hid (∀ j : Nat, j < 4 → cs[j * 2]? = some (.string (nm (iX j))) ∧ cs[j * 2 + 1]? = some (.int .i64 (iV y m n j))) := Lib.hid (by
      intro j hj
      rw [← hcs]
      match j, hj with
      | 0, _ => exact ⟨rfl, rfl⟩
      | 1, _ => exact ⟨rfl, rfl⟩
      | 2, _ => exact ⟨rfl, rfl⟩
      | 3, _ => exact ⟨rfl, rfl⟩)
    have rg1 := rg.1
    have rg2 := rg.2
    rw [hcs, hsl, hw2]
    clear hsl hw2 hcs HC HL HB HD rg
    go_loopw [12, 13, 14, 15, 16, 56] (fun s12 s13 s14 s15 s16 ii wr => ∃ j : Nat, j ≤ 4 ∧ ii = .int .i64 j ∧ Hid (Lp w wr c k g j sl cs)) (fun s12 s13 s14 s15 s16 ii _ => 4 - (intOf ii).toNat)
    case atStart => exact ⟨0, Nat.zero_le _, rfl, HP⟩
    case round =>
      clear HP
      obtain ⟨j, hj, rfl, HP⟩ := hrel
      have i0 : (0 : Int) ≤ (j : Int) := by omega
      by_cases jlt : j < 4
      · have i1 : (j : Int) < 4 := by omega
        have HVJ := Lib.hid (HV.out j)
        have e0 : wr.cell? ⟨sl, j * 2, none⟩ = some (.string (nm (iX j))) := by rw [cell_blk HP.out.s]; exact (HE.out j jlt).1
        have e1 : wr.cell? ⟨sl, j * 2 + 1, none⟩ = some (.int .i64 (iV y m n j)) := by rw [cell_blk HP.out.s]; exact (HE.out j jlt).2
        obtain ⟨S, hS⟩ : ∃ z, nm (iX j) = z := ⟨_, rfl⟩
        obtain ⟨V, hV⟩ : ∃ z, iV y m n j = z := ⟨_, rfl⟩
        rw [hS] at e0
        rw [hV] at e1 HVJ
        go_upto_region 9 with fail
        obtain ⟨bx, hbx⟩ : ∃ z, wr.heap.size = z := ⟨_, rfl⟩
        obtain ⟨wa, hwa⟩ : ∃ z, wr.alloc (.cells #[.string S, .int .i64 V] 46) = z := ⟨_, rfl⟩
        have KA : Below wr.heap.size wr wa := by rw [← hwa]; exact (Below.refl _ wr).alloc (Nat.le_refl _) _
        have hf : wa.heap[bx]? = some (.cells #[.string S, .int .i64 V] 46 (0, 0)) := by rw [← hwa, ← hbx]; exact al_new wr _
        have f0 := cell_blk hf 0
        have f1 := cell_blk hf 1
        have HXN : Hid (bx ≠ k ∧ bx ≠ g) := Lib.hid (by have := HP.out.cal.lt; omega)
        have HP := Lib.hid (HP.out.keep KA)
        rw [hwa, hbx]
        clear hbx hwa KA hf e0 e1
        have HF := Lib.hid (form_cal (iX j) (iX_lt j) wa c k g j (by omega) (HT.out.keep HP.out.bw) HP.out.cal)
        obtain ⟨P, hP⟩ : ∃ s, bP (iX j) = s := ⟨_, rfl⟩
        obtain ⟨N, hN⟩ : ∃ s, bN (iX j) = s := ⟨_, rfl⟩
        rw [hS, hP, hN] at HF
        go_wp2_with fail
        (with_reducible refine HF.out.mono ?_)
        rintro e w3 ⟨co, cc, oo, oc, rfl, HA, HC, HU⟩
        have f1 := cell_but f1 HU.out HXN.out.1 HXN.out.2
        have HP := Lib.hid (HP.out.form HC.out HU.out)
        have HBK := Lib.hid (Bk.new HA.out HP.out.bw)
        have AG : (#[.int .i64 (bP (iX j)), .int .i64 (bN (iX j) : Int), .slice co (bN (iX j)) cc, .slice oo 0 oc] : Array Value) = #[.int .i64 P, .int .i64 (N : Int), .slice co N cc, .slice oo 0 oc] := by rw [hP, hN]
        rw [AG] at HBK
        clear HU HC HF f0
        go_upto_region 10 with fail
        obtain ⟨b, hb⟩ : ∃ z, w3.heap.size = z := ⟨_, rfl⟩
        obtain ⟨w4, hw4⟩ : ∃ z, w3.alloc (.cells #[.int .i64 P, .int .i64 (N : Int), .slice co N cc, .slice oo 0 oc] 29) = z := ⟨_, rfl⟩
        have KA : Below w3.heap.size w3 w4 := by rw [← hw4]; exact (Below.refl _ w3).alloc (Nat.le_refl _) _
        have f1 := cell_keep f1 KA
        have HP := Lib.hid (HP.out.keep KA)
        rw [hw4, hb] at HBK
        rw [hw4, hb]
        clear hw4 hb KA HA
        have HG : Hid (Calls Tryd.prog 17 #[.agg #[.int .i64 P, .int .i64 (N : Int), .slice co N cc, .slice oo 0 oc], .int .i64 V] w4 fun e w' => ∃ l o lc, e = .returned (.tuple #[.slice (some ⟨l, o, none⟩) 1 lc, .int .i64 0]) ∧ Hid (OneAt w' l o (bB (iX j) V) (bB (iX j) (V + 1) - 1)) ∧ Hid (Below w4.heap.size w4 w')) := Lib.hid (by rw [← AG]; exact get_bas (iX j) co cc oo oc V HVJ.out.1.1 HVJ.out.1.2 w4 HBK.out.at_)
        have HX : Hid (w4.heap[b]? = some (.cells #[.int .i64 P, .int .i64 (N : Int), .slice co N cc, .slice oo 0 oc] 29 (0, 0))) := Lib.hid (by rw [← AG]; exact HBK.out.box)
        have c0 := cell_blk HX.out 0
        have c1 := cell_blk HX.out 1
        have c2 := cell_blk HX.out 2
        have c3 := cell_blk HX.out 3
        clear HX AG HBK hP hN
        go_wp2_with fail
        (with_reducible refine HG.out.mono ?_)
        rintro e w5 ⟨l, o, lc, rfl, HO, KB⟩
        have HP := Lib.hid (HP.out.keep KB.out)
        clear HG KB c0 c1 c2 c3 f1
        obtain ⟨A, hA⟩ : ∃ z, bB (iX j) V = z := ⟨_, rfl⟩
        obtain ⟨B, hB⟩ : ∃ z, bB (iX j) (V + 1) - 1 = z := ⟨_, rfl⟩
        rw [hA, hB] at HVJ HO
        have g0 := HO.out.1
        have g1 := HO.out.2
        have t0 : A ≤ n := HVJ.out.2.1
        have t1 : n ≤ B := HVJ.out.2.2
        clear hA hB HVJ
        go_wp2
        go_roundw
        case rel => exact ⟨j + 1, by omega, by go_num, HP⟩
        case measure => simp [intOf]; omega
      · obtain rfl : j = 4 := by omega
        have HF : Hid (Calls Tryd.prog 11 #[.pointer (some ⟨c, 0, none⟩), .string ⟨#[119, 101, 101, 107]⟩] wr fun e w' => ∃ (co : Option Addr) (cc : Nat) (oo : Option Addr) (oc : Nat), e = .returned (.tuple #[.agg #[.int .i64 7, .int .i64 1, .slice co 1 cc, .slice oo 0 oc], .int .i64 0]) ∧ Hid ((bF 2 co cc oo oc).At w') ∧ Hid (CalOk w' c k g 5) ∧ Hid (But2 k g wr w')) := Lib.hid (form_cal 2 (by decide) wr c k g 4 (by decide) (HT.out.keep HP.out.bw) HP.out.cal)
        go_wp2_with fail
        (with_reducible refine HF.out.mono ?_)
        rintro e w3 ⟨co, cc, oo, oc, rfl, HA, HC, HU⟩
        have HP := Lib.hid (HP.out.form HC.out HU.out)
        have HBK : Hid (Bk 2 w (w3.alloc (.cells #[.int .i64 7, .int .i64 1, .slice co 1 cc, .slice oo 0 oc] 29)) w3.heap.size co cc oo oc) := Lib.hid (Bk.new HA.out HP.out.bw)
        clear HU HC HF
        go_upto_region 15 with fail
        obtain ⟨b, hb⟩ : ∃ z, w3.heap.size = z := ⟨_, rfl⟩
        obtain ⟨w4, hw4⟩ : ∃ z, w3.alloc (.cells #[.int .i64 7, .int .i64 1, .slice co 1 cc, .slice oo 0 oc] 29) = z := ⟨_, rfl⟩
        rw [hw4, hb] at HBK
        rw [hw4, hb]
        clear hw4 hb HA HP HE HV hj i0 jlt
        obtain ⟨T, hT, k0, T0, T1, T2, T3, K1, K2⟩ : ∃ T : Int, n.tdiv 7 = T ∧ ∃ k0 : Int, -700000 ≤ T ∧ T ≤ 700000 ∧ T - 1 ≤ k0 ∧ k0 ≤ T + 2 ∧ 7 * k0 - 3 ≤ n ∧ n ≤ 7 * k0 + 3 := by
          refine ⟨_, rfl, (n + 3) / 7, ?_⟩
          have h := @Int.tdiv_eq_ediv n 7
          have hs : Int.sign 7 = 1 := by decide
          rw [hs] at h
          split at h <;> omega
        have HX : Hid (∀ W, Bk 2 w W b co cc oo oc → W.heap[b]? = some (.cells #[.int .i64 7, .int .i64 1, .slice co 1 cc, .slice oo 0 oc] 29 (0, 0))) := Lib.hid (fun W h => h.box)
        have HAW := Lib.hid (fun W (h : Below w.heap.size w W) => awake_any W (HT.out.keep h))
        clear HT
        go_upto_region 17 with fail
        go_loopw [20, 21, 22] (fun ii s21 s22 wr => ∃ x : Int, T - 1 ≤ x ∧ x ≤ k0 ∧ ii = .int .i64 x ∧ Hid (Bk 2 w wr b co cc oo oc)) (fun ii s21 s22 _ => (k0 + 1 - intOf ii).toNat)
        case atStart => exact ⟨T - 1, by omega, by omega, rfl, HBK⟩
        case round =>
          clear HBK
          obtain ⟨x, x0, x1, rfl, HBK⟩ := hrel
          have xt : x ≤ T - 1 + 3 := by omega
          have c0 := cell_blk (HX.out _ HBK.out) 0
          have c1 := cell_blk (HX.out _ HBK.out) 1
          have c2 := cell_blk (HX.out _ HBK.out) 2
          have c3 := cell_blk (HX.out _ HBK.out) 3
          have HG : Hid (∃ A B : Int, A = 7 * x - 3 ∧ B = A + 6 ∧ Calls Tryd.prog 17 #[.agg #[.int .i64 7, .int .i64 1, .slice co 1 cc, .slice oo 0 oc], .int .i64 x] wr fun e w' => ∃ l o lc, e = .returned (.tuple #[.slice (some ⟨l, o, none⟩) 1 lc, .int .i64 0]) ∧ Hid (OneAt w' l o A B) ∧ Hid (Below wr.heap.size wr w')) := Lib.hid ⟨bB 2 x, bB 2 (x + 1) - 1, rfl, by show 7 * (x + 1) - 3 - 1 = 7 * x - 3 + 6; omega, get_bas 2 co cc oo oc x (by omega) (by omega) wr HBK.out.at_⟩
          obtain ⟨A, B, hA, hB, HG⟩ := HG.out
          have HG := Lib.hid HG
          have A1 : A ≤ 7 * x - 3 := by omega
          have A2 : 7 * x - 3 ≤ A := by omega
          have B1 : B ≤ A + 6 := by omega
          have B2 : A + 6 ≤ B := by omega
          clear hA hB
          go_wp2_with fail
          (with_reducible refine HG.out.mono ?_)
          rintro e w5 ⟨l, o, lc, rfl, HO, KB⟩
          have HS0 : Hid (Gw w w5 b co cc oo oc l o A B) := Lib.hid ⟨HBK.out.keep KB.out, HO.out⟩
          clear HG KB c0 c1 c2 c3 HO HBK
          have HS : Hid (∀ W, Gw w W b co cc oo oc l o A B → W.cell? ⟨l, o, none⟩ = some (.int .i64 A) ∧ W.cell? ⟨l, o + 1, none⟩ = some (.int .i64 B) ∧ Hid (Gw w W b co cc oo oc l o A B)) := Lib.hid (fun W h => ⟨h.g0.1, h.g0.2, Lib.hid h⟩)
          have HW : Hid (∀ W, Calls Tryd.prog 19 #[.int .i64 A] W fun e w' => e = .returned (.int .i64 1) ∧ Below W.heap.size W w') := Lib.hid (fun W => (weekday_any A W).mono (by
            rintro e w' ⟨rfl, rfl⟩
            refine ⟨ret_int ?_, Below.refl _ _⟩
            unfold Cal.wd
            omega))
          have a0 : -6000000 ≤ A := by omega
          have a1 : A ≤ 6000000 := by omega
          have a2 : -6000000 ≤ B := by omega
          have a3 : B ≤ 6000000 := by omega
          have w151 : B - A = 6 := by omega
          go_upto_region 20 with fail
          refine wp_region_held_drew (S := (fun W => W.cell? ⟨l, o, none⟩ = some (.int .i64 A) ∧ W.cell? ⟨l, o + 1, none⟩ = some (.int .i64 B) ∧ Hid (Gw w W b co cc oo oc l o A B))) (by kernel_rfl) ?_ (fun hHeld => ?_)
          · exact HS.out _ (HS0.out.keep (Below.refl _ _).drew)
          refine wpAnyH_take (i := 0) (oi := _) (v := ?_) rfl (by kernel_rfl) (by kernel_rfl) (by kernel_rfl) (fun _ _ _ h => h) (Or.inl ⟨by kernel_rfl, ?_⟩) (by assumption) ?_
          rotate_left 1
          focus (intro wq hSw; (try dsimp only at hSw); obtain ⟨s0, s1, s2⟩ := hSw; go_simp; (try with_reducible rfl); done)
          try simp only [List.getElem_toArray, List.getElem_cons_zero, List.getElem_cons_succ, Act.put, List.setIfInBounds_toArray, List.set_cons_zero, List.set_cons_succ]
          refine wpAnyH_take (i := 1) (oi := _) (v := ?_) rfl (by kernel_rfl) (by kernel_rfl) (by kernel_rfl) (fun _ _ _ h => h) (Or.inl ⟨by kernel_rfl, ?_⟩) (by assumption) ?_
          rotate_left 1
          focus (intro wq hSw; (try dsimp only at hSw); obtain ⟨s0, s1, s2⟩ := hSw; go_simp; (try with_reducible rfl); done)
          try simp only [List.getElem_toArray, List.getElem_cons_zero, List.getElem_cons_succ, Act.put, List.setIfInBounds_toArray, List.set_cons_zero, List.set_cons_succ]
          refine wpAnyH_take (i := 2) (oi := _) (v := ?_) rfl (by kernel_rfl) (by kernel_rfl) (by kernel_rfl) (fun _ _ _ h => h) (Or.inl ⟨by kernel_rfl, ?_⟩) (by assumption) ?_
          rotate_left 1
          focus (intro wq hSw; (try dsimp only at hSw); obtain ⟨s0, s1, s2⟩ := hSw; go_simp; (try with_reducible rfl); done)
          try simp only [List.getElem_toArray, List.getElem_cons_zero, List.getElem_cons_succ, Act.put, List.setIfInBounds_toArray, List.set_cons_zero, List.set_cons_succ]
          refine wpAnyH_take (i := 3) (oi := _) (v := ?_) rfl (by kernel_rfl) (by kernel_rfl) (by kernel_rfl) (fun _ _ _ h => h) (Or.inl ⟨by kernel_rfl, ?_⟩) (by assumption) ?_
          rotate_left 1
          focus (intro wq hSw; (try dsimp only at hSw); obtain ⟨s0, s1, s2⟩ := hSw; go_simp; (try with_reducible rfl); done)
          try simp only [List.getElem_toArray, List.getElem_cons_zero, List.getElem_cons_succ, Act.put, List.setIfInBounds_toArray, List.set_cons_zero, List.set_cons_succ]
          refine wpAnyH_take (i := 4) (oi := _) (v := ?_) rfl (by kernel_rfl) (by kernel_rfl) (by kernel_rfl) (fun _ _ _ h => h) (Or.inl ⟨by kernel_rfl, ?_⟩) (by assumption) ?_
          rotate_left 1
          focus (intro wq hSw; (try dsimp only at hSw); obtain ⟨s0, s1, s2⟩ := hSw; go_simp; (try with_reducible rfl); done)
          try simp only [List.getElem_toArray, List.getElem_cons_zero, List.getElem_cons_succ, Act.put, List.setIfInBounds_toArray, List.set_cons_zero, List.set_cons_succ]
          refine wpAnyH_take (i := 5) (oi := _) (v := ?_) rfl (by kernel_rfl) (by kernel_rfl) (by kernel_rfl) (fun _ _ _ h => h) (Or.inl ⟨by kernel_rfl, ?_⟩) (by assumption) ?_
          rotate_left 1
          focus (intro wq hSw; (try dsimp only at hSw); obtain ⟨s0, s1, s2⟩ := hSw; go_simp; (try with_reducible rfl); done)
          try simp only [List.getElem_toArray, List.getElem_cons_zero, List.getElem_cons_succ, Act.put, List.setIfInBounds_toArray, List.set_cons_zero, List.set_cons_succ]
          refine wpAnyH_take (i := 6) (oi := _) (v := ?_) rfl (by kernel_rfl) (by kernel_rfl) (by kernel_rfl) (fun _ _ _ h => h) (Or.inl ⟨by kernel_rfl, ?_⟩) (by assumption) ?_
          rotate_left 1
          focus (intro wq hSw; (try dsimp only at hSw); obtain ⟨s0, s1, s2⟩ := hSw; go_simp; (try with_reducible rfl); done)
          try simp only [List.getElem_toArray, List.getElem_cons_zero, List.getElem_cons_succ, Act.put, List.setIfInBounds_toArray, List.set_cons_zero, List.set_cons_succ]
          refine wpAnyH_take (i := 7) (oi := _) (v := ?_) rfl (by kernel_rfl) (by kernel_rfl) (by kernel_rfl) (fun _ _ _ h => h) (Or.inl ⟨by kernel_rfl, ?_⟩) (by assumption) ?_
          rotate_left 1
          focus (intro wq hSw; (try dsimp only at hSw); obtain ⟨s0, s1, s2⟩ := hSw; go_simp; (try with_reducible rfl); done)
          try simp only [List.getElem_toArray, List.getElem_cons_zero, List.getElem_cons_succ, Act.put, List.setIfInBounds_toArray, List.set_cons_zero, List.set_cons_succ]
          refine wpAnyH_take (i := 8) (oi := _) (v := ?_) rfl (by kernel_rfl) (by kernel_rfl) (by kernel_rfl) (fun _ _ _ h => h) (Or.inl ⟨by kernel_rfl, ?_⟩) (by assumption) ?_
          rotate_left 1
          focus (intro wq hSw; (try dsimp only at hSw); obtain ⟨s0, s1, s2⟩ := hSw; go_simp; (try with_reducible rfl); done)
          try simp only [List.getElem_toArray, List.getElem_cons_zero, List.getElem_cons_succ, Act.put, List.setIfInBounds_toArray, List.set_cons_zero, List.set_cons_succ]
          refine wpAnyH_take (i := 9) (oi := _) (v := ?_) rfl (by kernel_rfl) (by kernel_rfl) (by kernel_rfl) (fun _ _ _ h => h) (Or.inl ⟨by kernel_rfl, ?_⟩) (by assumption) ?_
          rotate_left 1
          focus (intro wq hSw; (try dsimp only at hSw); obtain ⟨s0, s1, s2⟩ := hSw; go_simp; (try with_reducible rfl); done)
          try simp only [List.getElem_toArray, List.getElem_cons_zero, List.getElem_cons_succ, Act.put, List.setIfInBounds_toArray, List.set_cons_zero, List.set_cons_succ]
          refine wpAnyH_take (i := 10) (oi := _) (v := ?_) rfl (by kernel_rfl) (by kernel_rfl) (by kernel_rfl) (fun _ _ _ h => h) (Or.inl ⟨by kernel_rfl, ?_⟩) (by assumption) ?_
          rotate_left 1
          focus (intro wq hSw; (try dsimp only at hSw); obtain ⟨s0, s1, s2⟩ := hSw; go_simp; (try with_reducible rfl); done)
          try simp only [List.getElem_toArray, List.getElem_cons_zero, List.getElem_cons_succ, Act.put, List.setIfInBounds_toArray, List.set_cons_zero, List.set_cons_succ]
          refine wpAnyH_take (i := 11) (oi := _) (v := ?_) rfl (by kernel_rfl) (by kernel_rfl) (by kernel_rfl) (fun _ _ _ h => h) (Or.inl ⟨by kernel_rfl, ?_⟩) (by assumption) ?_
          rotate_left 1
          focus (intro wq hSw; (try dsimp only at hSw); obtain ⟨s0, s1, s2⟩ := hSw; go_simp; (try with_reducible rfl); done)
          try simp only [List.getElem_toArray, List.getElem_cons_zero, List.getElem_cons_succ, Act.put, List.setIfInBounds_toArray, List.set_cons_zero, List.set_cons_succ]
          refine wpAnyH_take (i := 12) (oi := _) (v := ?_) rfl (by kernel_rfl) (by kernel_rfl) (by kernel_rfl) (fun _ _ _ h => h) (Or.inl ⟨by kernel_rfl, ?_⟩) (by assumption) ?_
          rotate_left 1
          focus (intro wq hSw; (try dsimp only at hSw); obtain ⟨s0, s1, s2⟩ := hSw; go_simp; (try with_reducible rfl); done)
          try simp only [List.getElem_toArray, List.getElem_cons_zero, List.getElem_cons_succ, Act.put, List.setIfInBounds_toArray, List.set_cons_zero, List.set_cons_succ]
          refine wpAnyH_take (i := 13) (oi := _) (v := ?_) rfl (by kernel_rfl) (by kernel_rfl) (by kernel_rfl) (fun _ _ _ h => h) (Or.inl ⟨by kernel_rfl, ?_⟩) (by assumption) ?_
          rotate_left 1
          focus (intro wq hSw; (try dsimp only at hSw); obtain ⟨s0, s1, s2⟩ := hSw; go_simp; (try with_reducible rfl); done)
          try simp only [List.getElem_toArray, List.getElem_cons_zero, List.getElem_cons_succ, Act.put, List.setIfInBounds_toArray, List.set_cons_zero, List.set_cons_succ]
          refine wpAnyH_take (i := 14) (oi := _) (v := ?_) rfl (by kernel_rfl) (by kernel_rfl) (by kernel_rfl) (fun _ _ _ h => h) (Or.inl ⟨by kernel_rfl, ?_⟩) (by assumption) ?_
          rotate_left 1
          focus (intro wq hSw; (try dsimp only at hSw); obtain ⟨s0, s1, s2⟩ := hSw; go_simp; (try with_reducible rfl); done)
          try simp only [List.getElem_toArray, List.getElem_cons_zero, List.getElem_cons_succ, Act.put, List.setIfInBounds_toArray, List.set_cons_zero, List.set_cons_succ]
          refine wpAnyH_take (i := 15) (oi := _) (v := ?_) rfl (by kernel_rfl) (by kernel_rfl) (by kernel_rfl) (fun _ _ _ h => h) (Or.inl ⟨by kernel_rfl, ?_⟩) (by assumption) ?_
          rotate_left 1
          focus (intro wq hSw; (try dsimp only at hSw); obtain ⟨s0, s1, s2⟩ := hSw; go_simp; (try with_reducible rfl); done)
          try simp only [List.getElem_toArray, List.getElem_cons_zero, List.getElem_cons_succ, Act.put, List.setIfInBounds_toArray, List.set_cons_zero, List.set_cons_succ]
          refine wpAnyH_ready (rs := [16]) (by kernel_rfl) (by simp) ?_
          refine AllReadyH.cons (o := _) rfl (fun K hK => ?_) AllReadyH.nil
          rw [if_pos (by kernel_rfl)]
          go_simp
          (go_at_call 19; (with_reducible refine (HW.out _).mono ?_); rintro e z1 ⟨rfl, q⟩)
          first | refine hK.out _ _ ?_ (fun hHeld => ?_) | (go_wp2_with fail; refine hK.out _ _ ?_ (fun hHeld => ?_))
          · exact HS.out _ (hHeld.2.2.out.keep q)
          clear hK K
          try simp only [List.getElem_toArray, List.getElem_cons_zero, List.getElem_cons_succ, Act.put, List.setIfInBounds_toArray, List.set_cons_zero, List.set_cons_succ]
          refine wpAnyH_take (i := 17) (oi := _) (v := ?_) rfl (by kernel_rfl) (by kernel_rfl) (by kernel_rfl) (fun _ _ _ h => h) (Or.inl ⟨by kernel_rfl, ?_⟩) (by assumption) ?_
          rotate_left 1
          focus (intro wq hSw; (try dsimp only at hSw); obtain ⟨s0, s1, s2⟩ := hSw; go_simp; (try with_reducible rfl); done)
          try simp only [List.getElem_toArray, List.getElem_cons_zero, List.getElem_cons_succ, Act.put, List.setIfInBounds_toArray, List.set_cons_zero, List.set_cons_succ]
          refine wpAnyH_take (i := 18) (oi := _) (v := ?_) rfl (by kernel_rfl) (by kernel_rfl) (by kernel_rfl) (fun _ _ _ h => h) (Or.inl ⟨by kernel_rfl, ?_⟩) (by assumption) ?_
          rotate_left 1
          focus (intro wq hSw; (try dsimp only at hSw); obtain ⟨s0, s1, s2⟩ := hSw; go_simp; (try with_reducible rfl); done)
          try simp only [List.getElem_toArray, List.getElem_cons_zero, List.getElem_cons_succ, Act.put, List.setIfInBounds_toArray, List.set_cons_zero, List.set_cons_succ]
          refine wpAnyH_take (i := 19) (oi := _) (v := ?_) rfl (by kernel_rfl) (by kernel_rfl) (by kernel_rfl) (fun _ _ _ h => h) (Or.inl ⟨by kernel_rfl, ?_⟩) (by assumption) ?_
          rotate_left 1
          focus (intro wq hSw; (try dsimp only at hSw); obtain ⟨s0, s1, s2⟩ := hSw; go_simp; (try with_reducible rfl); done)
          try simp only [List.getElem_toArray, List.getElem_cons_zero, List.getElem_cons_succ, Act.put, List.setIfInBounds_toArray, List.set_cons_zero, List.set_cons_succ]
          refine wpAnyH_take (i := 20) (oi := _) (v := ?_) rfl (by kernel_rfl) (by kernel_rfl) (by kernel_rfl) (fun _ _ _ h => h) (Or.inl ⟨by kernel_rfl, ?_⟩) (by assumption) ?_
          rotate_left 1
          focus (intro wq hSw; (try dsimp only at hSw); obtain ⟨s0, s1, s2⟩ := hSw; go_simp; (try with_reducible rfl); done)
          try simp only [List.getElem_toArray, List.getElem_cons_zero, List.getElem_cons_succ, Act.put, List.setIfInBounds_toArray, List.set_cons_zero, List.set_cons_succ]
          refine wpAnyH_take (i := 21) (oi := _) (v := ?_) rfl (by kernel_rfl) (by kernel_rfl) (by kernel_rfl) (fun _ _ _ h => h) (Or.inl ⟨by kernel_rfl, ?_⟩) (by assumption) ?_
          rotate_left 1
          focus (intro wq hSw; (try dsimp only at hSw); obtain ⟨s0, s1, s2⟩ := hSw; go_simp; (try with_reducible rfl); done)
          try simp only [List.getElem_toArray, List.getElem_cons_zero, List.getElem_cons_succ, Act.put, List.setIfInBounds_toArray, List.set_cons_zero, List.set_cons_succ]
          refine wpAnyH_take (i := 22) (oi := _) (v := ?_) rfl (by kernel_rfl) (by kernel_rfl) (by kernel_rfl) (fun _ _ _ h => h) (Or.inl ⟨by kernel_rfl, ?_⟩) (by assumption) ?_
          rotate_left 1
          focus (intro wq hSw; (try dsimp only at hSw); obtain ⟨s0, s1, s2⟩ := hSw; go_simp; (try with_reducible rfl); done)
          try simp only [List.getElem_toArray, List.getElem_cons_zero, List.getElem_cons_succ, Act.put, List.setIfInBounds_toArray, List.set_cons_zero, List.set_cons_succ]
          refine wpAnyH_take (i := 23) (oi := _) (v := ?_) rfl (by kernel_rfl) (by kernel_rfl) (by kernel_rfl) (fun _ _ _ h => h) (Or.inl ⟨by kernel_rfl, ?_⟩) (by assumption) ?_
          rotate_left 1
          focus (intro wq hSw; (try dsimp only at hSw); obtain ⟨s0, s1, s2⟩ := hSw; go_simp; (try with_reducible rfl); done)
          try simp only [List.getElem_toArray, List.getElem_cons_zero, List.getElem_cons_succ, Act.put, List.setIfInBounds_toArray, List.set_cons_zero, List.set_cons_succ]
          refine wpAnyH_take (i := 24) (oi := _) (v := ?_) rfl (by kernel_rfl) (by kernel_rfl) (by kernel_rfl) (fun _ _ _ h => h) (Or.inl ⟨by kernel_rfl, ?_⟩) (by assumption) ?_
          rotate_left 1
          focus (intro wq hSw; (try dsimp only at hSw); obtain ⟨s0, s1, s2⟩ := hSw; go_simp; (try with_reducible rfl); done)
          try simp only [List.getElem_toArray, List.getElem_cons_zero, List.getElem_cons_succ, Act.put, List.setIfInBounds_toArray, List.set_cons_zero, List.set_cons_succ]
          refine wpAnyH_take (i := 25) (oi := _) (v := ?_) rfl (by kernel_rfl) (by kernel_rfl) (by kernel_rfl) (fun _ _ _ h => h) (Or.inl ⟨by kernel_rfl, ?_⟩) (by assumption) ?_
          rotate_left 1
          focus (intro wq hSw; (try dsimp only at hSw); obtain ⟨s0, s1, s2⟩ := hSw; go_simp; (try with_reducible rfl); done)
          try simp only [List.getElem_toArray, List.getElem_cons_zero, List.getElem_cons_succ, Act.put, List.setIfInBounds_toArray, List.set_cons_zero, List.set_cons_succ]
          refine wpAnyH_take (i := 26) (oi := _) (v := ?_) rfl (by kernel_rfl) (by kernel_rfl) (by kernel_rfl) (fun _ _ _ h => h) (Or.inl ⟨by kernel_rfl, ?_⟩) (by assumption) ?_
          rotate_left 1
          focus (intro wq hSw; (try dsimp only at hSw); obtain ⟨s0, s1, s2⟩ := hSw; go_simp; (try with_reducible rfl); done)
          try simp only [List.getElem_toArray, List.getElem_cons_zero, List.getElem_cons_succ, Act.put, List.setIfInBounds_toArray, List.set_cons_zero, List.set_cons_succ]
          refine wpAnyH_take (i := 27) (oi := _) (v := ?_) rfl (by kernel_rfl) (by kernel_rfl) (by kernel_rfl) (fun _ _ _ h => h) (Or.inl ⟨by kernel_rfl, ?_⟩) (by assumption) ?_
          rotate_left 1
          focus (intro wq hSw; (try dsimp only at hSw); obtain ⟨s0, s1, s2⟩ := hSw; go_simp; (try with_reducible rfl); done)
          try simp only [List.getElem_toArray, List.getElem_cons_zero, List.getElem_cons_succ, Act.put, List.setIfInBounds_toArray, List.set_cons_zero, List.set_cons_succ]
          refine wpAnyH_take (i := 28) (oi := _) (v := ?_) rfl (by kernel_rfl) (by kernel_rfl) (by kernel_rfl) (fun _ _ _ h => h) (Or.inl ⟨by kernel_rfl, ?_⟩) (by assumption) ?_
          rotate_left 1
          focus (intro wq hSw; (try dsimp only at hSw); obtain ⟨s0, s1, s2⟩ := hSw; go_simp; (try with_reducible rfl); done)
          try simp only [List.getElem_toArray, List.getElem_cons_zero, List.getElem_cons_succ, Act.put, List.setIfInBounds_toArray, List.set_cons_zero, List.set_cons_succ]
          refine wpAnyH_take (i := 29) (oi := _) (v := ?_) rfl (by kernel_rfl) (by kernel_rfl) (by kernel_rfl) (fun _ _ _ h => h) (Or.inl ⟨by kernel_rfl, ?_⟩) (by assumption) ?_
          rotate_left 1
          focus (intro wq hSw; (try dsimp only at hSw); obtain ⟨s0, s1, s2⟩ := hSw; go_simp; (try with_reducible rfl); done)
          try simp only [List.getElem_toArray, List.getElem_cons_zero, List.getElem_cons_succ, Act.put, List.setIfInBounds_toArray, List.set_cons_zero, List.set_cons_succ]
          refine wpAnyH_take (i := 30) (oi := _) (v := ?_) rfl (by kernel_rfl) (by kernel_rfl) (by kernel_rfl) (fun _ _ _ h => h) (Or.inl ⟨by kernel_rfl, ?_⟩) (by assumption) ?_
          rotate_left 1
          focus (intro wq hSw; (try dsimp only at hSw); obtain ⟨s0, s1, s2⟩ := hSw; go_simp; (try with_reducible rfl); done)
          try simp only [List.getElem_toArray, List.getElem_cons_zero, List.getElem_cons_succ, Act.put, List.setIfInBounds_toArray, List.set_cons_zero, List.set_cons_succ]
          refine wpAnyH_done (by kernel_rfl) ?_ _
          have g0 := hHeld.1
          have g1 := hHeld.2.1
          have HBK := Lib.hid (hHeld.2.2.out).bk
          by_cases hx : x = k0
          · have t0 : A ≤ n := by omega
            have t1 : n ≤ B := by omega
            have HQ := Lib.hid (HAW.out _ HBK.out.bw)
            go_wp2_with fail
            (with_reducible refine HQ.out.mono ?_)
            rintro e z2 ⟨rfl, q⟩
            have HF := Lib.hid (HBK.out.bw.trans (q.mono HBK.out.bw.size))
            go_wp2
            go_returns
            exact ⟨rfl, HF.out⟩
          · have t0 : A ≤ n := by omega
            have t1 : B < n := by omega
            go_wp2
            go_roundw
            case rel => exact ⟨x + 1, by omega, by omega, by go_num, HBK⟩
            case measure => simp [intOf]; omega
end Go.Proofs.YtacpcokmgahjaaaDoor
