/- The document's own: Command. -/
import Derived.Test.YtimjendkpjojoaaDoorX18
import Derived.Test.YtimjendkpjojoaaDoorY8
namespace Go.Proofs.YtimjendkpjojoaaDoor
set_option linter.unusedVariables false
set_option linter.unusedSimpArgs false
open Go.ChangeShapes Go.WideShapes Go.ChangeAt Go.RowKit

set_option maxRecDepth 20000 in
set_option maxHeartbeats 4000000 in
theorem rcmd_any (w : World) (D : Nat) (cm : Lx.Cm) (g : Cg) (hg : CG w D cm g) (hD : D ≤ 1048576) (hl : (tour cm.ex 1).length ≤ 1048576) (hm : ∀ z ∈ cm.nums, -9223372036854775808 ≤ z ∧ z ≤ 9223372036854775807) (hrg : (-9223372036854775808 ≤ cm.rg.low ∧ cm.rg.low ≤ 9223372036854775807) ∧ (-9223372036854775808 ≤ cm.rg.high ∧ cm.rg.high ≤ 9223372036854775807)) (r : Bool) (hr : r = true ↔ RightC cm) :
    Calls Tryd.prog 10 #[.agg (cgC g)] w fun e w' => e = .returned (.tuple #[.string (if r = true then ⟨(Lx.lineC cm ((Lx.shape cm.word).getD [])).toArray⟩ else ⟨#[]⟩), .int .i64 (if r = true then 0 else 110)]) ∧ Below w.heap.size w w' := by
  have HRT : Hid (∀ W (q : Below w.heap.size w W), Calls Tryd.prog 12 #[.agg (cgC g)] W fun e w' => e = .returned (.bool r) ∧ Below W.heap.size W w') := Lib.hid (fun W q => cright_any W D cm g (hg.keep q) hD hl r hr)
  unfold cgC at HRT ⊢
  have HR := Lib.hid hr
  have HG := Lib.hid hg
  have HM := Lib.hid hm
  have HRGB := Lib.hid hrg
  clear hl
  obtain ⟨wb, an, nl, nc, am, ml, mc, lo, hi, hl, hh, z⟩ := g
  have HWD : Hid (wb = ⟨cm.word.toArray⟩) := Lib.hid hg.wd
  have HRG : Hid (cm.rg = ⟨lo, hi, hl, hh⟩) := Lib.hid hg.rg
  have HRGB : Hid ((-9223372036854775808 ≤ lo ∧ lo ≤ 9223372036854775807) ∧ (-9223372036854775808 ≤ hi ∧ hi ≤ 9223372036854775807)) := Lib.hid (by have := HRGB.out; rw [HRG.out] at this; exact this)
  dsimp only at HRT ⊢
  obtain ⟨bx, hbx⟩ : ∃ y, w.heap.size = y := ⟨_, rfl⟩
  obtain ⟨w1, hw1⟩ : ∃ y, w.alloc (.cells #[.string wb, .slice an nl nc, .slice am ml mc, .int .i64 lo, .int .i64 hi, .bool hl, .bool hh, .int .u8 z.p.op, .string z.p.nm, .slice z.an z.nn z.nc, .slice z.aa z.p.k z.ac] 30) = y := ⟨_, rfl⟩
  have HX : Hid (Bc w w1 bx #[.string wb, .slice an nl nc, .slice am ml mc, .int .i64 lo, .int .i64 hi, .bool hl, .bool hh, .int .u8 z.p.op, .string z.p.nm, .slice z.an z.nn z.nc, .slice z.aa z.p.k z.ac]) := Lib.hid ⟨by rw [← hw1]; exact (Below.refl _ w).alloc (Nat.le_refl _) _, by rw [← hw1, ← hbx, al_new]⟩
  clear hr hg hm hD
  have e0 := cell_blk HX.out.box 0
  have e1 := cell_blk HX.out.box 1
  have e2 := cell_blk HX.out.box 2
  have e3 := cell_blk HX.out.box 3
  have e4 := cell_blk HX.out.box 4
  have e5 := cell_blk HX.out.box 5
  have e6 := cell_blk HX.out.box 6
  have e7 := cell_blk HX.out.box 7
  have e8 := cell_blk HX.out.box 8
  have e9 := cell_blk HX.out.box 9
  have e10 := cell_blk HX.out.box 10
  go_enter Tryd.func10, Tryd.ntmps10
  go_upto_region 1 with fail
  clear hw1 hbx
  go_wp2_with fail
  (with_reducible refine (HRT.out w1 HX.out.bw).mono ?_)
  rintro e w2 ⟨rfl, q⟩
  have HX := Lib.hid (HX.out.keep q)
  clear q HRT e0 e1 e2 e3 e4 e5 e6 e7 e8 e9 e10
  cases r
  · go_wp2_with fail
    go_returns
    exact ⟨by simp, HX.out.bw⟩
  · have HRC : RightC cm := by first | exact HR.out.1 rfl | exact HR.out rfl | exact HR.out | exact HR.out.1 trivial
    obtain ⟨shl, hs⟩ := Option.isSome_iff_exists.1 HRC.ok
    have HXL : Hid (101 ∈ shl → Lx.Ok 40 cm.ex ∧ (Lx.lineX cm.ex).length ≤ 400000) := Lib.hid (fun q => right_len HG.out.ex (HRC.ex1 (by rw [hs]; exact q)))
    have HLC := Lib.hid (fun j => lineC_len HRC hs HM.out (by rw [HRG.out]; exact HRGB.out) (fun q => (HXL.out q).2) j)
    have HLET := Lib.hid (Lx.shape_let (Lx.shape_in hs)).2
    have HLN := Lib.hid (Lx.shape_let (Lx.shape_in hs)).1
    have HNN : Hid (cm.names.length = Lx.cN shl) := Lib.hid (by have := HRC.nn; rw [hs] at this; exact this)
    have HMM : Hid (cm.nums.length = Lx.cI shl) := Lib.hid (by have := HRC.mm; rw [hs] at this; exact this)
    have HLINE : Hid (cm.word ++ Lx.shL cm (shl.take shl.length) 0 0 = Lx.lineC cm ((Lx.shape cm.word).getD [])) := Lib.hid (by rw [hs, List.take_length]; rfl)
    have HSH : Hid (∀ W, Calls Tryd.prog 25 #[.string wb] W fun e w' => e = .returned (.tuple #[.string ⟨shl.toArray⟩, .bool true]) ∧ W = w') := Lib.hid (fun W => by
      have := rshape_any wb W
      rw [show wb.data.toList = cm.word by rw [HWD.out], hs] at this
      exact this)
    obtain ⟨sb, hsb⟩ : ∃ y : ByteArray, ⟨shl.toArray⟩ = y := ⟨_, rfl⟩
    have HSS : Hid (sb.size = shl.length) := Lib.hid (by rw [← hsb]; rfl)
    have HSG : Hid (∀ i (h : i < sb.size) (h' : i < shl.length), (sb[i]'h) = shl[i]) := Lib.hid (by subst hsb; intro i h h'; rfl)
    rw [hsb] at HSH
    have HW0 : Hid (wb.data.toList = cm.word ++ Lx.shL cm (shl.take 0) 0 0) := Lib.hid (by rw [HWD.out]; simp [Lx.shL])
    obtain ⟨RS, hRS⟩ : ∃ y : ByteArray, (⟨(Lx.lineC cm ((Lx.shape cm.word).getD [])).toArray⟩ : ByteArray) = y := ⟨_, rfl⟩
    have HRS : Hid (RS.data.toList = cm.word ++ Lx.shL cm (shl.take shl.length) 0 0) := Lib.hid (by rw [HLINE.out, ← hRS])
    have HRE := Lib.hid hRS
    clear hs HR HRC hsb HWD HLINE hRS
    have e0 := cell_blk HX.out.box 0
    have e1 := cell_blk HX.out.box 1
    have e2 := cell_blk HX.out.box 2
    have e3 := cell_blk HX.out.box 3
    have e4 := cell_blk HX.out.box 4
    have e5 := cell_blk HX.out.box 5
    have e6 := cell_blk HX.out.box 6
    have e7 := cell_blk HX.out.box 7
    have e8 := cell_blk HX.out.box 8
    have e9 := cell_blk HX.out.box 9
    have e10 := cell_blk HX.out.box 10
    go_wp2_with fail
    (with_reducible refine (HSH.out _).mono ?_)
    rintro e w5 ⟨rfl, rfl⟩
    clear HSH
    go_upto_region 7 with fail
    have hs1 : (shl.length : Int) ≤ 4 := by have := HLN.out; omega
    clear e0 e1 e2 e3 e4 e5 e6 e7 e8 e9 e10
    go_loopw [4, 7, 8, 9] (fun s4 s7 s8 ii wr => ∃ (j : Nat), j ≤ shl.length ∧ s7 = .int .i64 (Lx.cN (shl.take j) : Nat) ∧ s8 = .int .i64 (Lx.cI (shl.take j) : Nat) ∧ ii = .int .i64 j ∧ (∃ S : ByteArray, s4 = .string S ∧ Hid (S.data.toList = cm.word ++ Lx.shL cm (shl.take j) 0 0)) ∧ Hid (Bc w wr bx #[.string wb, .slice an nl nc, .slice am ml mc, .int .i64 lo, .int .i64 hi, .bool hl, .bool hh, .int .u8 z.p.op, .string z.p.nm, .slice z.an z.nn z.nc, .slice z.aa z.p.k z.ac])) (fun _ _ _ ii _ => shl.length - (intOf ii).toNat)
    case atStart => exact ⟨0, Nat.zero_le _, rfl, rfl, rfl, ⟨_, rfl, HW0⟩, HX⟩
    case round =>
      clear HX HW0
      obtain ⟨j, hj, rfl, rfl, rfl, ⟨S, rfl, HS⟩, HX⟩ := hrel
      have HA4 : Hid (Lx.cN (shl.take j) ≤ 4) := Lib.hid (Nat.le_trans (Lx.cN_len _) (by rw [List.length_take]; have := HLN.out; omega))
      have HI4 : Hid (Lx.cI (shl.take j) ≤ 4) := Lib.hid (Nat.le_trans (Lx.cI_len _) (by rw [List.length_take]; have := HLN.out; omega))
      have j0 : (0 : Int) ≤ (j : Int) := by omega
      have hSs : S.size ≤ 1700000 := by have a := HLC.out j; rw [← HS.out] at a; rw [Lib.size_eq]; exact a
      have e0 := cell_blk HX.out.box 0
      have e1 := cell_blk HX.out.box 1
      have e2 := cell_blk HX.out.box 2
      have e3 := cell_blk HX.out.box 3
      have e4 := cell_blk HX.out.box 4
      have e5 := cell_blk HX.out.box 5
      have e6 := cell_blk HX.out.box 6
      have e7 := cell_blk HX.out.box 7
      have e8 := cell_blk HX.out.box 8
      have e9 := cell_blk HX.out.box 9
      have e10 := cell_blk HX.out.box 10
      by_cases jlt : j < shl.length
      · have jb : j < sb.size := by rw [HSS.out]; exact jlt
        have j1 : (j : Int) < (sb.size : Int) := by omega
        have j2 : (j : Int) ≤ 4 := by omega
        have hOk := HLET.out _ (List.getElem_mem jlt)
        have HNXL := Lib.hid (HLC.out (j + 1))
        have HST0 : Hid (cm.word ++ Lx.shL cm (shl.take (j + 1)) 0 0 = cm.word ++ Lx.shL cm (shl.take j) 0 0 ++ [32] ++ Lx.letL cm shl[j] (Lx.cN (shl.take j)) (Lx.cI (shl.take j))) := Lib.hid (by rw [Lx.shL_step cm shl j jlt]; simp only [List.append_assoc])
        have HCN0 := Lib.hid (Lx.cN_step shl j jlt)
        have HCI0 := Lib.hid (Lx.cI_step shl j jlt)
        have HAT := Lib.hid (fun q => Lx.cN_take shl j jlt q)
        have HIT := Lib.hid (fun q => Lx.cI_take shl j jlt q)
        obtain ⟨A, hA⟩ : ∃ A, Lx.cN (shl.take j) = A := ⟨_, rfl⟩
        obtain ⟨I, hI⟩ : ∃ I, Lx.cI (shl.take j) = I := ⟨_, rfl⟩
        rw [hA] at HST0 HCN0 HA4 HAT
        rw [hI] at HST0 HCI0 HI4 HIT
        simp only [hA, hI]
        have HSPL : Hid ((Lx.letL cm shl[j] A I).length ≤ 1700000) := Lib.hid (by have a := HNXL.out; rw [HST0.out] at a; simp only [List.length_append, List.length_cons, List.length_nil] at a; omega)
        have iA : (0 : Int) ≤ (A : Int) := by omega
        have iB : (A : Int) ≤ 4 := by have := HA4.out; omega
        have iC : (0 : Int) ≤ (I : Int) := by omega
        have iD : (I : Int) ≤ 4 := by have := HI4.out; omega
        clear hA hI HNXL
        rcases hOk with hx | hx | hx | hx | hx
        · have hxx : ((sb[j]'jb).toNat : Int) = 110 := by rw [HSG.out j jb jlt, hx]; rfl
          have HCN : Hid (Lx.cN (shl.take (j + 1)) = A + 1) := Lib.hid (by rw [HCN0.out, hx]; rfl)
          have HCI : Hid (Lx.cI (shl.take (j + 1)) = I) := Lib.hid (by rw [HCI0.out, hx]; rfl)
          have ha : A < cm.names.length := by rw [HNN.out]; exact HAT.out hx
          have HTX : Hid (Lx.letL cm shl[j] A I = cm.names[A]) := Lib.hid (by rw [hx]; show cm.names.getD A [] = _; rw [List.getD_eq_getElem?_getD, List.getElem?_eq_getElem ha]; rfl)
          obtain ⟨nb, np, han, hc⟩ := HG.out.nn.here (by have := HG.out.nn.len; rw [List.length_map] at this; dsimp only at this ⊢; omega)
          dsimp only at han
          have hc1 := hc A (by simpa using ha)
          rw [List.getElem_map] at hc1
          have HNL : Hid (A < nl) := Lib.hid (by have := HG.out.nn.len; rw [List.length_map] at this; dsimp only at this; omega)
          rw [HTX.out] at HST0 HSPL
          generalize cm.names[A] = nm at hc1 HST0 HSPL
          have a1 : (A : Int) < (nl : Int) := by have := HNL.out; omega
          obtain ⟨X, hX⟩ : ∃ y : ByteArray, ⟨nm.toArray⟩ = y := ⟨_, rfl⟩
          have HE2 : Hid (cm.word ++ Lx.shL cm (shl.take (j + 1)) 0 0 = S.data.toList ++ [32] ++ X.data.toList) := Lib.hid (by rw [HST0.out, HS.out, ← hX])
          have hXs : X.size ≤ 1700000 := by rw [← hX, len_toArray]; have := HSPL.out; omega
          rw [hX] at hc1
          have c1 := cell_keep hc1 HX.out.bw
          subst han
          clear hc ha HST0 HCN0 HCI0 hx HAT HIT HTX hX hc1 HS HSPL
          go_wp2_with fail
          go_roundw
          case rel => exact ⟨j + 1, by omega, by rw [HCN.out]; try go_num, by rw [HCI.out]; try go_num, by go_num, ⟨_, rfl, Lib.hid (by rw [HE2.out]; simp [ByteArray.data_append])⟩, HX⟩
          case measure => simp [intOf]; omega
        · have hxx : ((sb[j]'jb).toNat : Int) = 105 := by rw [HSG.out j jb jlt, hx]; rfl
          have HCN : Hid (Lx.cN (shl.take (j + 1)) = A) := Lib.hid (by rw [HCN0.out, hx]; rfl)
          have HCI : Hid (Lx.cI (shl.take (j + 1)) = I + 1) := Lib.hid (by rw [HCI0.out, hx]; rfl)
          have ha : I < cm.nums.length := by rw [HMM.out]; exact HIT.out hx
          have HTX : Hid (Lx.letL cm shl[j] A I = Lib.itoa cm.nums[I]) := Lib.hid (by rw [hx]; show Lib.itoa (cm.nums.getD I 0) = _; rw [List.getD_eq_getElem?_getD, List.getElem?_eq_getElem ha]; rfl)
          obtain ⟨nb, np, han, hc⟩ := HG.out.mm.here (by have := HG.out.mm.len; dsimp only at this ⊢; omega)
          dsimp only at han
          have hc1 := (hc I ha).1
          have HZB := Lib.hid (hc I ha).2
          have HNL : Hid (I < ml) := Lib.hid (by have := HG.out.mm.len; dsimp only at this; omega)
          rw [HTX.out] at HST0 HSPL
          generalize cm.nums[I] = nm at hc1 HST0 HSPL HZB
          have a1 : (I : Int) < (ml : Int) := by have := HNL.out; omega
          have HF := Lib.hid (rnum_any nm HZB.out.1 HZB.out.2 wr)
          obtain ⟨X, hX⟩ : ∃ y : ByteArray, ⟨(Lib.itoa nm).toArray⟩ = y := ⟨_, rfl⟩
          have HE2 : Hid (cm.word ++ Lx.shL cm (shl.take (j + 1)) 0 0 = S.data.toList ++ [32] ++ X.data.toList) := Lib.hid (by rw [HST0.out, HS.out, ← hX])
          have hXs : X.size ≤ 1700000 := by rw [← hX, len_toArray]; have := HSPL.out; omega
          rw [hX] at HF
          have c1 := cell_keep hc1 HX.out.bw
          subst han
          clear hc ha HST0 HCN0 HCI0 hx HAT HIT HTX hX hc1 HS HSPL HZB
          go_wp2_with fail
          (with_reducible refine HF.out.mono ?_)
          rintro e w8 ⟨rfl, q⟩
          have HX := Lib.hid (HX.out.keep q)
          clear q HF c1 e0 e1 e2 e3 e4 e5 e6 e7 e8 e9 e10
          go_wp2_with fail
          go_roundw
          case rel => exact ⟨j + 1, by omega, by rw [HCN.out]; try go_num, by rw [HCI.out]; try go_num, by go_num, ⟨_, rfl, Lib.hid (by rw [HE2.out]; simp [ByteArray.data_append])⟩, HX⟩
          case measure => simp [intOf]; omega
        · have hxx : ((sb[j]'jb).toNat : Int) = 101 := by rw [HSG.out j jb jlt, hx]; rfl
          have HCN : Hid (Lx.cN (shl.take (j + 1)) = A) := Lib.hid (by rw [HCN0.out, hx]; rfl)
          have HCI : Hid (Lx.cI (shl.take (j + 1)) = I) := Lib.hid (by rw [HCI0.out, hx]; rfl)
          have HTX : Hid (Lx.letL cm shl[j] A I = Lx.lineX cm.ex) := Lib.hid (by rw [hx]; rfl)
          have HOX := Lib.hid (HXL.out (by rw [← hx]; exact List.getElem_mem jlt))
          rw [HTX.out] at HST0 HSPL
          have HF := Lib.hid (rline_any 40 cm.ex D _ wr (HG.out.ex.keep HX.out.bw) HOX.out.1 HOX.out.2)
          unfold hV pv at HF
          dsimp only at HF
          obtain ⟨X, hX⟩ : ∃ y : ByteArray, ⟨(Lx.lineX cm.ex).toArray⟩ = y := ⟨_, rfl⟩
          have HE2 : Hid (cm.word ++ Lx.shL cm (shl.take (j + 1)) 0 0 = S.data.toList ++ [32] ++ X.data.toList) := Lib.hid (by rw [HST0.out, HS.out, ← hX])
          have hXs : X.size ≤ 1700000 := by rw [← hX, len_toArray]; have := HSPL.out; omega
          rw [hX] at HF
          clear HST0 HCN0 HCI0 hx HAT HIT HTX hX HS HSPL HOX
          go_wp2_with fail
          (with_reducible refine HF.out.mono ?_)
          rintro e w8 ⟨rfl, q⟩
          have HX := Lib.hid (HX.out.keep q)
          clear q HF e0 e1 e2 e3 e4 e5 e6 e7 e8 e9 e10
          go_wp2_with fail
          go_roundw
          case rel => exact ⟨j + 1, by omega, by rw [HCN.out]; try go_num, by rw [HCI.out]; try go_num, by go_num, ⟨_, rfl, Lib.hid (by rw [HE2.out]; simp [ByteArray.data_append])⟩, HX⟩
          case measure => simp [intOf]; omega
        · have hxx : ((sb[j]'jb).toNat : Int) = 61 := by rw [HSG.out j jb jlt, hx]; rfl
          have HCN : Hid (Lx.cN (shl.take (j + 1)) = A) := Lib.hid (by rw [HCN0.out, hx]; rfl)
          have HCI : Hid (Lx.cI (shl.take (j + 1)) = I) := Lib.hid (by rw [HCI0.out, hx]; rfl)
          have HTX : Hid (Lx.letL cm shl[j] A I = [61]) := Lib.hid (by rw [hx]; rfl)
          rw [HTX.out] at HST0 HSPL
          have HE2 : Hid (cm.word ++ Lx.shL cm (shl.take (j + 1)) 0 0 = S.data.toList ++ [32] ++ [61]) := Lib.hid (by rw [HST0.out, HS.out])
          clear HST0 HCN0 HCI0 hx HAT HIT HTX HS HSPL
          go_wp2_with fail
          go_roundw
          case rel => exact ⟨j + 1, by omega, by rw [HCN.out]; try go_num, by rw [HCI.out]; try go_num, by go_num, ⟨_, rfl, Lib.hid (by rw [HE2.out]; simp [ByteArray.data_append])⟩, HX⟩
          case measure => simp [intOf]; omega
        · have hxx : ((sb[j]'jb).toNat : Int) = 114 := by rw [HSG.out j jb jlt, hx]; rfl
          have HCN : Hid (Lx.cN (shl.take (j + 1)) = A) := Lib.hid (by rw [HCN0.out, hx]; rfl)
          have HCI : Hid (Lx.cI (shl.take (j + 1)) = I) := Lib.hid (by rw [HCI0.out, hx]; rfl)
          have HTX : Hid (Lx.letL cm shl[j] A I = Lx.rgL cm.rg) := Lib.hid (by rw [hx]; rfl)
          rw [HTX.out, HRG.out] at HST0
          have HE2 : Hid (cm.word ++ Lx.shL cm (shl.take (j + 1)) 0 0 = S.data.toList ++ [32] ++ Lx.rgL ⟨lo, hi, hl, hh⟩) := Lib.hid (by rw [HST0.out, HS.out])
          have HE2 := HE2.out
          unfold Lx.rgL at HE2
          dsimp only at HE2
          clear HST0 HCN0 HCI0 hx HAT HIT HTX HS HSPL
          cases hl
          · cases hh
            · simp only [Bool.false_eq_true, if_false] at HE2
              have HE2 := Lib.hid HE2
              go_wp2_with fail
              go_roundw
              case rel => exact ⟨j + 1, by omega, by rw [HCN.out]; try go_num, by rw [HCI.out]; try go_num, by go_num, ⟨_, rfl, Lib.hid (by rw [HE2.out]; simp [ByteArray.data_append])⟩, HX⟩
              case measure => simp [intOf]; omega
            · simp only [Bool.false_eq_true, if_false, if_true] at HE2
              have HE2 := HE2
              have HFH := Lib.hid (fun W => rnum_any hi HRGB.out.2.1 HRGB.out.2.2 W)
              obtain ⟨XH, hXH⟩ : ∃ y : ByteArray, ⟨(Lib.itoa hi).toArray⟩ = y := ⟨_, rfl⟩
              have hXHs : XH.size ≤ 21 := by rw [← hXH]; exact itoa_len HRGB.out.2
              rw [hXH] at HFH
              rw [show Lib.itoa hi = XH.data.toList by rw [← hXH]] at HE2
              clear hXH
              have HE2 := Lib.hid HE2
              go_wp2_with fail
              (with_reducible refine (HFH.out _).mono ?_)
              rintro e w8 ⟨rfl, q⟩
              have HX := Lib.hid (HX.out.keep q)
              clear q HFH e0 e1 e2 e3 e4 e5 e6 e7 e8 e9 e10
              have e0 := cell_blk HX.out.box 0
              have e1 := cell_blk HX.out.box 1
              have e2 := cell_blk HX.out.box 2
              have e3 := cell_blk HX.out.box 3
              have e4 := cell_blk HX.out.box 4
              have e5 := cell_blk HX.out.box 5
              have e6 := cell_blk HX.out.box 6
              have e7 := cell_blk HX.out.box 7
              have e8 := cell_blk HX.out.box 8
              have e9 := cell_blk HX.out.box 9
              have e10 := cell_blk HX.out.box 10
              go_wp2_with fail
              go_roundw
              case rel => exact ⟨j + 1, by omega, by rw [HCN.out]; try go_num, by rw [HCI.out]; try go_num, by go_num, ⟨_, rfl, Lib.hid (by rw [HE2.out]; simp [ByteArray.data_append])⟩, HX⟩
              case measure => simp [intOf]; omega
          · cases hh
            · simp only [Bool.false_eq_true, if_false, if_true] at HE2
              have HE2 := HE2
              have HFL := Lib.hid (fun W => rnum_any lo HRGB.out.1.1 HRGB.out.1.2 W)
              obtain ⟨XL, hXL⟩ : ∃ y : ByteArray, ⟨(Lib.itoa lo).toArray⟩ = y := ⟨_, rfl⟩
              have hXLs : XL.size ≤ 21 := by rw [← hXL]; exact itoa_len HRGB.out.1
              rw [hXL] at HFL
              rw [show Lib.itoa lo = XL.data.toList by rw [← hXL]] at HE2
              clear hXL
              have HE2 := Lib.hid HE2
              go_wp2_with fail
              (with_reducible refine (HFL.out _).mono ?_)
              rintro e w8 ⟨rfl, q⟩
              have HX := Lib.hid (HX.out.keep q)
              clear q HFL e0 e1 e2 e3 e4 e5 e6 e7 e8 e9 e10
              have e0 := cell_blk HX.out.box 0
              have e1 := cell_blk HX.out.box 1
              have e2 := cell_blk HX.out.box 2
              have e3 := cell_blk HX.out.box 3
              have e4 := cell_blk HX.out.box 4
              have e5 := cell_blk HX.out.box 5
              have e6 := cell_blk HX.out.box 6
              have e7 := cell_blk HX.out.box 7
              have e8 := cell_blk HX.out.box 8
              have e9 := cell_blk HX.out.box 9
              have e10 := cell_blk HX.out.box 10
              go_wp2_with fail
              go_roundw
              case rel => exact ⟨j + 1, by omega, by rw [HCN.out]; try go_num, by rw [HCI.out]; try go_num, by go_num, ⟨_, rfl, Lib.hid (by rw [HE2.out]; simp [ByteArray.data_append])⟩, HX⟩
              case measure => simp [intOf]; omega
            · simp only [if_true] at HE2
              have HE2 := HE2
              have HFL := Lib.hid (fun W => rnum_any lo HRGB.out.1.1 HRGB.out.1.2 W)
              obtain ⟨XL, hXL⟩ : ∃ y : ByteArray, ⟨(Lib.itoa lo).toArray⟩ = y := ⟨_, rfl⟩
              have hXLs : XL.size ≤ 21 := by rw [← hXL]; exact itoa_len HRGB.out.1
              rw [hXL] at HFL
              rw [show Lib.itoa lo = XL.data.toList by rw [← hXL]] at HE2
              clear hXL
              have HFH := Lib.hid (fun W => rnum_any hi HRGB.out.2.1 HRGB.out.2.2 W)
              obtain ⟨XH, hXH⟩ : ∃ y : ByteArray, ⟨(Lib.itoa hi).toArray⟩ = y := ⟨_, rfl⟩
              have hXHs : XH.size ≤ 21 := by rw [← hXH]; exact itoa_len HRGB.out.2
              rw [hXH] at HFH
              rw [show Lib.itoa hi = XH.data.toList by rw [← hXH]] at HE2
              clear hXH
              have HE2 := Lib.hid HE2
              go_wp2_with fail
              (with_reducible refine (HFL.out _).mono ?_)
              rintro e w8 ⟨rfl, q⟩
              have HX := Lib.hid (HX.out.keep q)
              clear q HFL e0 e1 e2 e3 e4 e5 e6 e7 e8 e9 e10
              have e0 := cell_blk HX.out.box 0
              have e1 := cell_blk HX.out.box 1
              have e2 := cell_blk HX.out.box 2
              have e3 := cell_blk HX.out.box 3
              have e4 := cell_blk HX.out.box 4
              have e5 := cell_blk HX.out.box 5
              have e6 := cell_blk HX.out.box 6
              have e7 := cell_blk HX.out.box 7
              have e8 := cell_blk HX.out.box 8
              have e9 := cell_blk HX.out.box 9
              have e10 := cell_blk HX.out.box 10
              go_wp2_with fail
              (with_reducible refine (HFH.out _).mono ?_)
              rintro e w8 ⟨rfl, q⟩
              have HX := Lib.hid (HX.out.keep q)
              clear q HFH e0 e1 e2 e3 e4 e5 e6 e7 e8 e9 e10
              have e0 := cell_blk HX.out.box 0
              have e1 := cell_blk HX.out.box 1
              have e2 := cell_blk HX.out.box 2
              have e3 := cell_blk HX.out.box 3
              have e4 := cell_blk HX.out.box 4
              have e5 := cell_blk HX.out.box 5
              have e6 := cell_blk HX.out.box 6
              have e7 := cell_blk HX.out.box 7
              have e8 := cell_blk HX.out.box 8
              have e9 := cell_blk HX.out.box 9
              have e10 := cell_blk HX.out.box 10
              go_wp2_with fail
              go_roundw
              case rel => exact ⟨j + 1, by omega, by rw [HCN.out]; try go_num, by rw [HCI.out]; try go_num, by go_num, ⟨_, rfl, Lib.hid (by rw [HE2.out]; simp [ByteArray.data_append])⟩, HX⟩
              case measure => simp [intOf]; omega
      · obtain rfl : j = shl.length := by omega
        have j1 : ¬ (shl.length : Int) < (sb.size : Int) := by have := HSS.out; omega
        have HSE : Hid (S = RS) := Lib.hid (by
          apply ByteArray.ext
          apply Array.toList_inj.1
          rw [HRS.out, HS.out])
        clear HS
        go_wp2_with fail
        go_returns
        exact ⟨by rw [HRE.out, ← HSE.out]; rfl, HX.out.bw⟩
end Go.Proofs.YtimjendkpjojoaaDoor
