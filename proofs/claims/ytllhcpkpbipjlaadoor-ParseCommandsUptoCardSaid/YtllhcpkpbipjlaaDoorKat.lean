/- M19 in one. -/
import Derived.Test.YtllhcpkpbipjlaaDoorKas
namespace Go.Proofs.YtllhcpkpbipjlaaDoor
set_option linter.unusedVariables false
set_option linter.unusedSimpArgs false
open Go.ChangeShapes Go.WideShapes Go.ChangeAt Go.RowKit

structure Bc (w0 w : World) (b : Nat) (cs : Array Value) : Prop where
  bw : Below w0.heap.size w0 w
  box : w.heap[b]? = some (.cells cs 39 (0, 0))
theorem Bc.keep {w0 w w' : World} {b : Nat} {cs : Array Value} (h : Bc w0 w b cs) (q : Below w.heap.size w w') : Bc w0 w' b cs := ⟨h.bw.trans (q.mono h.bw.size), blk_below h.box q⟩
theorem Bc.lt {w0 w : World} {b : Nat} {cs : Array Value} (h : Bc w0 w b cs) : b + 1 ≤ w.heap.size := (Array.getElem?_eq_some_iff.1 h.box).1
theorem Bc.grown {w0 w w' : World} {b : Nat} {cs : Array Value} (h : Bc w0 w b cs) (hb : w0.heap.size ≤ b) {row : Option Nat} (g : w.grownBy w' row) (hr : ∀ k, row = some k → b + 1 ≤ k) : Bc w0 w' b cs :=
  ⟨below_grown h.bw g (fun q e => by have := hr q e; omega) h.bw.size, (g.block b h.lt (by intro e; have := hr b e.symm; omega)).trans h.box⟩
set_option maxRecDepth 20000 in
set_option maxHeartbeats 4000000 in
theorem told_any (w : World) (D : Nat) (cm : Lx.Cm) (g : Cg) (hg : CG w D cm g) (sh : List UInt8) (hsh : Lx.shape cm.word = some sh) (hn : cm.names.length = Lx.cN sh) (hm : cm.nums.length = Lx.cI sh) (hx : 101 ∈ sh → Lx.Ok 40 cm.ex ∧ Lx.cnt cm.ex ≤ 2000) :
    Calls Tryd.prog 23 #[.agg (cgC g)] w fun e w' => ∃ ao c, e = .returned (.slice ao (Lx.toldC cm sh).length c) ∧ Hid (Below w.heap.size w w') ∧ Hid (TkAt w' ao (Lx.toldC cm sh).length c (Lx.toldC cm sh)) := by
  have HG := Lib.hid hg
  obtain ⟨sl, hlet⟩ := Lx.shape_let (Lx.shape_in hsh)
  have HLET := Lib.hid hlet
  have HNN := Lib.hid hn
  have HMM := Lib.hid hm
  have HOK := Lib.hid hx
  have HW9 : Hid (101 ∈ sh → (Lx.wordsX cm.ex).length ≤ 19999) := Lib.hid (fun q => by have a := words_len 40 cm.ex (hx q).1; have b := (hx q).2; omega)
  have HPL : Hid (∀ j, (Lx.shW cm (sh.take j) 0 0).length ≤ 79996) := Lib.hid (fun j => by
    have a := Lx.shW_len cm (sh.take j) 0 0 (fun q => HW9.out (List.mem_of_mem_take q))
    have b : (sh.take j).length ≤ 4 := by rw [List.length_take]; omega
    omega)
  have HSS : Hid ((⟨sh.toArray⟩ : ByteArray).size = sh.length) := Lib.hid (by rw [Lib.size_eq])
  have HSL : Hid (sh.length ≤ 4) := Lib.hid sl
  have HSH : Hid (Lx.shape g.wb.data.toList = some sh) := Lib.hid (by rw [hg.wd]; simpa using hsh)
  obtain ⟨wb, an, nl, nc, am, ml, mc, lo, hi, gl, gh, z⟩ := g
  have HWD : Hid (wb = ⟨cm.word.toArray⟩) := Lib.hid hg.wd
  have HRG : Hid (cm.rg = ⟨lo, hi, gl, gh⟩) := Lib.hid hg.rg
  have HWB : Hid (∀ W, Calls Tryd.prog 12 #[.string wb] W fun e w' => e = .returned (.tuple #[.string ⟨sh.toArray⟩, .bool true]) ∧ W = w') := Lib.hid (fun W => by
    have := rshape_any wb W
    have e := HSH.out
    dsimp only at e
    rw [e] at this; exact this)
  obtain ⟨sb, hsb⟩ : ∃ sb : ByteArray, ⟨sh.toArray⟩ = sb := ⟨_, rfl⟩
  have HSG : Hid (∀ j (h : j < sb.size) (h' : j < sh.length), sb[j]'h = sh[j]'h') := Lib.hid (by subst hsb; intro j h h'; rfl)
  rw [hsb] at HSS HWB
  clear hsb
  unfold cgC
  dsimp only
  obtain ⟨b, hb⟩ : ∃ z, w.heap.size = z := ⟨_, rfl⟩
  have HB0 : Hid (w.heap.size ≤ b) := Lib.hid (by omega)
  obtain ⟨w1, hw1⟩ : ∃ y, w.alloc (.cells #[.string wb, .slice an nl nc, .slice am ml mc, .int .i64 lo, .int .i64 hi, .bool gl, .bool gh, .int .u8 z.p.op, .string z.p.nm, .slice z.an z.nn z.nc, .slice z.aa z.p.k z.ac] 39) = y := ⟨_, rfl⟩
  have HX : Hid (Bc w w1 b #[.string wb, .slice an nl nc, .slice am ml mc, .int .i64 lo, .int .i64 hi, .bool gl, .bool gh, .int .u8 z.p.op, .string z.p.nm, .slice z.an z.nn z.nc, .slice z.aa z.p.k z.ac]) := Lib.hid ⟨by rw [← hw1]; exact (Below.refl _ w).alloc (Nat.le_refl _) _, by rw [← hw1, ← hb, al_new]⟩
  clear hg hsh hlet hn hm hx sl HSH
  have e0 := cell_blk HX.out.box 0
  have e1 := cell_blk HX.out.box 1
  have e2 := cell_blk HX.out.box 2
  have e3 := cell_blk HX.out.box 3
  have e4 := cell_blk HX.out.box 4
  have e5 := cell_blk HX.out.box 5
  have e6 := cell_blk HX.out.box 6
  have e7 := cell_blk HX.out.box 7
  have e8 := cell_blk HX.out.box 8
  have e9 := cell_blk HX.out.box 9
  have e10 := cell_blk HX.out.box 10
  go_enter Tryd.func23, Tryd.ntmps23
  go_upto_region 2 with fail
  have HO : Hid ((w1.alloc (.cells #[.int .u8 1, .string wb, .int .i64 0] 47)).ownsRow (b + 1) 47 3 (.slice (some ⟨w1.heap.size, 0, none⟩) 1 1) 1 (tkCells [(1, cm.word, 0)])) := Lib.hid (by
    have := World.ownsRow_lit (base := b + 1) (e := 47) (size := 3) w1 #[.int .u8 1, .string wb, .int .i64 0] 1 HX.out.lt (by decide) rfl
    rw [HWD.out] at this ⊢; exact this)
  obtain ⟨w2, hw2⟩ : ∃ y, w1.alloc (.cells #[.int .u8 1, .string wb, .int .i64 0] 47) = y := ⟨_, rfl⟩
  have HX2 : Hid (Bc w w2 b #[.string wb, .slice an nl nc, .slice am ml mc, .int .i64 lo, .int .i64 hi, .bool gl, .bool gh, .int .u8 z.p.op, .string z.p.nm, .slice z.an z.nn z.nc, .slice z.aa z.p.k z.ac]) := Lib.hid (by rw [← hw2]; exact HX.out.keep ((Below.refl _ w1).alloc (Nat.le_refl _) _))
  rw [hw2] at HO ⊢
  obtain ⟨g1, hg1⟩ : ∃ z, w1.heap.size = z := ⟨_, rfl⟩
  try rw [hg1]
  rw [hg1] at HO
  clear hw2 hg1 hw1 hb e0 e1 e2 e3 e4 e5 e6 e7 e8 e9 e10
  have HX := HX2
  have e0 := cell_blk HX.out.box 0
  have e1 := cell_blk HX.out.box 1
  have e2 := cell_blk HX.out.box 2
  have e3 := cell_blk HX.out.box 3
  have e4 := cell_blk HX.out.box 4
  have e5 := cell_blk HX.out.box 5
  have e6 := cell_blk HX.out.box 6
  have e7 := cell_blk HX.out.box 7
  have e8 := cell_blk HX.out.box 8
  have e9 := cell_blk HX.out.box 9
  have e10 := cell_blk HX.out.box 10
  go_wp2_with fail
  (with_reducible refine (HWB.out _).mono ?_)
  rintro e w3 ⟨rfl, rfl⟩
  go_upto_region 5 with fail
  have hs1 : (sh.length : Int) ≤ 4 := by have := HSL.out; omega
  go_loopw [3, 6, 7, 8] (fun s3 s6 s7 ii wr => ∃ j : Nat, j ≤ sh.length ∧ s6 = .int .i64 (Lx.cN (sh.take j) : Nat) ∧ s7 = .int .i64 (Lx.cI (sh.take j) : Nat) ∧ ii = .int .i64 j ∧ Hid (Bc w wr b #[.string wb, .slice an nl nc, .slice am ml mc, .int .i64 lo, .int .i64 hi, .bool gl, .bool gh, .int .u8 z.p.op, .string z.p.nm, .slice z.an z.nn z.nc, .slice z.aa z.p.k z.ac]) ∧ Hid (wr.ownsRow (b + 1) 47 3 s3 ((Lx.shW cm (sh.take j) 0 0).length + 1) (tkCells ((1, cm.word, 0) :: Lx.shW cm (sh.take j) 0 0)))) (fun _ _ _ ii _ => sh.length - (intOf ii).toNat)
  case atStart => exact ⟨0, Nat.zero_le _, rfl, rfl, rfl, HX, HO⟩
  case round =>
    clear HX HX2 HO
    obtain ⟨j, hj, rfl, rfl, rfl, HX, HO⟩ := hrel
    have HA2 : Hid (Lx.cN (sh.take j) ≤ 4) := Lib.hid (Nat.le_trans (Lx.cN_len _) (by rw [List.length_take]; have := HSL.out; omega))
    have HI2 : Hid (Lx.cI (sh.take j) ≤ 4) := Lib.hid (Nat.le_trans (Lx.cI_len _) (by rw [List.length_take]; have := HSL.out; omega))
    have HP := Lib.hid (HPL.out j)
    have j0 : (0 : Int) ≤ (j : Int) := by omega
    by_cases jlt : j < sh.length
    · have jb : j < sb.size := by rw [HSS.out]; exact jlt
      have j1 : (j : Int) < (sb.size : Int) := by omega
      have j2 : (j : Int) ≤ 4 := by omega
      have HST0 : Hid ((1, cm.word, 0) :: Lx.shW cm (sh.take (j + 1)) 0 0 = ((1, cm.word, 0) :: Lx.shW cm (sh.take j) 0 0) ++ Lx.letW cm sh[j] (Lx.cN (sh.take j)) (Lx.cI (sh.take j))) := Lib.hid (by rw [Lx.shW_step cm sh j jlt]; rfl)
      have HCN0 := Lib.hid (Lx.cN_step sh j jlt)
      have HCI0 := Lib.hid (Lx.cI_step sh j jlt)
      obtain ⟨A, hA⟩ : ∃ A, Lx.cN (sh.take j) = A := ⟨_, rfl⟩
      obtain ⟨I, hI⟩ : ∃ I, Lx.cI (sh.take j) = I := ⟨_, rfl⟩
      have HA := Lib.hid hA
      have HI := Lib.hid hI
      rw [hA] at HST0 HCN0 HA2
      rw [hI] at HST0 HCI0 HI2
      simp only [hA, hI]
      obtain ⟨P, hP⟩ : ∃ P, (1, cm.word, 0) :: Lx.shW cm (sh.take j) 0 0 = P := ⟨_, rfl⟩
      obtain ⟨L, hL⟩ : ∃ L, (Lx.shW cm (sh.take j) 0 0).length + 1 = L := ⟨_, rfl⟩
      have HLL : Hid (P.length = L) := Lib.hid (by rw [← hP, ← hL]; rfl)
      have HP : Hid (L ≤ 79997) := Lib.hid (by have := HP.out; omega)
      rw [hP] at HO HST0
      rw [hL] at HO
      have iA : (0 : Int) ≤ (A : Int) := by omega
      have iB : (A : Int) ≤ 4 := by have := HA2.out; omega
      have iC : (0 : Int) ≤ (I : Int) := by omega
      have iD : (I : Int) ≤ 4 := by have := HI2.out; omega
      clear hA hI hP hL
      have e0 := cell_blk HX.out.box 0
      have e1 := cell_blk HX.out.box 1
      have e2 := cell_blk HX.out.box 2
      have e3 := cell_blk HX.out.box 3
      have e4 := cell_blk HX.out.box 4
      have e5 := cell_blk HX.out.box 5
      have e6 := cell_blk HX.out.box 6
      have e7 := cell_blk HX.out.box 7
      have e8 := cell_blk HX.out.box 8
      have e9 := cell_blk HX.out.box 9
      have e10 := cell_blk HX.out.box 10
      rcases HLET.out _ (List.getElem_mem jlt) with hx | hx | hx | hx | hx
      · -- a name
        have hxx : ((sb[j]'jb).toNat : Int) = 110 := by rw [HSG.out j jb jlt, hx]; rfl
        have ha : A < cm.names.length := by have := Lx.cN_take sh j jlt hx; rw [HA.out] at this; have := HNN.out; omega
        have HST : Hid ((1, cm.word, 0) :: Lx.shW cm (sh.take (j + 1)) 0 0 = P ++ [(1, cm.names[A], 0)]) := Lib.hid (by
          rw [HST0.out, hx]
          have e : Lx.letW cm 110 A I = [(1, cm.names[A], 0)] := by
            show [((1, cm.names.getD A [], 0) : Lx.Tk)] = _
            rw [List.getD_eq_getElem?_getD, List.getElem?_eq_getElem ha]; rfl
          rw [e])
        have HCN : Hid (Lx.cN (sh.take (j + 1)) = A + 1) := Lib.hid (by rw [HCN0.out, hx]; rfl)
        have HCI : Hid (Lx.cI (sh.take (j + 1)) = I) := Lib.hid (by rw [HCI0.out, hx]; rfl)
        have HSN : Hid ((Lx.shW cm (sh.take (j + 1)) 0 0).length + 1 = L + 1) := Lib.hid (by have e := congrArg List.length HST.out; rw [List.length_cons, List.length_append, HLL.out] at e; exact e)
        obtain ⟨nb, np, han, hc⟩ := HG.out.nn.here (by have := HG.out.nn.len; rw [List.length_map] at this; dsimp only at this ⊢; omega)
        dsimp only at han
        have c1 := cell_keep (hc A (by simpa using ha)) HX.out.bw
        rw [List.getElem_map] at c1
        have HNL : Hid (A < nl) := Lib.hid (by have := HG.out.nn.len; rw [List.length_map] at this; dsimp only at this; omega)
        generalize cm.names[A] = nm at c1 HST
        have a0 : (0 : Int) ≤ (A : Int) := by omega
        have a1 : (A : Int) < (nl : Int) := by have := HNL.out; omega
        have a2 : (A : Int) ≤ 5 := by have := HA2.out; omega
        subst han
        clear hc ha HST0 HCN0 HCI0 hx HA
        clear e0 e1 e2 e3 e4 e5 e6 e7 e8 e9 e10
        have e0 := cell_blk HX.out.box 0
        have e1 := cell_blk HX.out.box 1
        have e2 := cell_blk HX.out.box 2
        have e3 := cell_blk HX.out.box 3
        have e4 := cell_blk HX.out.box 4
        have e5 := cell_blk HX.out.box 5
        have e6 := cell_blk HX.out.box 6
        have e7 := cell_blk HX.out.box 7
        have e8 := cell_blk HX.out.box 8
        have e9 := cell_blk HX.out.box 9
        have e10 := cell_blk HX.out.box 10
        go_upto_region 17 with (at_builtin; refine appQ rfl (.tmp 62) (.tmp 69) rfl (b + 1) _ _ (L) (P) rfl (HO.out.alloc _) (some ⟨wr.heap.size, 0, none⟩) 1 1 [(1, nm, 0)] rfl (tk_block [(1, nm, 0)] (al_new _ _) rfl rfl (by omega)) (by have := HP.out; omega) (Nat.le_trans HX.out.lt (by simp)) ?_; intro v5 w5 own gr; have HON := Lib.hid own; have HXN := Lib.hid ((HX.out.keep ((Below.refl _ wr).alloc (Nat.le_refl _) _)).grown HB0.out gr (fun q e => (HO.out.lt q e).1)); clear own gr)
        have HO := HON
        have HX := HXN
        clear HON HXN
        go_wp2_with fail
        go_roundw
        case rel => exact ⟨j + 1, by omega, by rw [HCN.out]; try go_num, by rw [HCI.out]; try go_num, by go_num, HX, Lib.hid (by have e := HO.out; rw [HST.out, HSN.out]; exact e)⟩
        case measure => simp [intOf]; omega
      · -- a number
        have hxx : ((sb[j]'jb).toNat : Int) = 105 := by rw [HSG.out j jb jlt, hx]; rfl
        have ha : I < cm.nums.length := by have := Lx.cI_take sh j jlt hx; rw [HI.out] at this; have := HMM.out; omega
        have HST : Hid ((1, cm.word, 0) :: Lx.shW cm (sh.take (j + 1)) 0 0 = P ++ [(2, [], cm.nums[I])]) := Lib.hid (by
          rw [HST0.out, hx]
          have e : Lx.letW cm 105 A I = [(2, [], cm.nums[I])] := by
            show [((2, [], cm.nums.getD I 0) : Lx.Tk)] = _
            rw [List.getD_eq_getElem?_getD, List.getElem?_eq_getElem ha]; rfl
          rw [e])
        have HCN : Hid (Lx.cN (sh.take (j + 1)) = A) := Lib.hid (by rw [HCN0.out, hx]; rfl)
        have HCI : Hid (Lx.cI (sh.take (j + 1)) = I + 1) := Lib.hid (by rw [HCI0.out, hx]; rfl)
        have HSN : Hid ((Lx.shW cm (sh.take (j + 1)) 0 0).length + 1 = L + 1) := Lib.hid (by have e := congrArg List.length HST.out; rw [List.length_cons, List.length_append, HLL.out] at e; exact e)
        obtain ⟨nb, np, han, hc⟩ := HG.out.mm.here (by have := HG.out.mm.len; dsimp only at this ⊢; omega)
        dsimp only at han
        have c1 := cell_keep (hc I ha).1 HX.out.bw
        have HNL : Hid (I < ml) := Lib.hid (by have := HG.out.mm.len; dsimp only at this; omega)
        generalize cm.nums[I] = nm at c1 HST
        have a0 : (0 : Int) ≤ (I : Int) := by omega
        have a1 : (I : Int) < (ml : Int) := by have := HNL.out; omega
        have a2 : (I : Int) ≤ 5 := by have := HI2.out; omega
        subst han
        clear hc ha HST0 HCN0 HCI0 hx HI
        clear e0 e1 e2 e3 e4 e5 e6 e7 e8 e9 e10
        have e0 := cell_blk HX.out.box 0
        have e1 := cell_blk HX.out.box 1
        have e2 := cell_blk HX.out.box 2
        have e3 := cell_blk HX.out.box 3
        have e4 := cell_blk HX.out.box 4
        have e5 := cell_blk HX.out.box 5
        have e6 := cell_blk HX.out.box 6
        have e7 := cell_blk HX.out.box 7
        have e8 := cell_blk HX.out.box 8
        have e9 := cell_blk HX.out.box 9
        have e10 := cell_blk HX.out.box 10
        go_upto_region 20 with (at_builtin; refine appQ rfl (.tmp 75) (.tmp 82) rfl (b + 1) _ _ (L) (P) rfl (HO.out.alloc _) (some ⟨wr.heap.size, 0, none⟩) 1 1 [(2, [], nm)] rfl (tk_block [(2, [], nm)] (al_new _ _) rfl rfl (by omega)) (by have := HP.out; omega) (Nat.le_trans HX.out.lt (by simp)) ?_; intro v5 w5 own gr; have HON := Lib.hid own; have HXN := Lib.hid ((HX.out.keep ((Below.refl _ wr).alloc (Nat.le_refl _) _)).grown HB0.out gr (fun q e => (HO.out.lt q e).1)); clear own gr)
        have HO := HON
        have HX := HXN
        clear HON HXN
        go_wp2_with fail
        go_roundw
        case rel => exact ⟨j + 1, by omega, by rw [HCN.out]; try go_num, by rw [HCI.out]; try go_num, by go_num, HX, Lib.hid (by have e := HO.out; rw [HST.out, HSN.out]; exact e)⟩
        case measure => simp [intOf]; omega
      · -- an expression
        have hxx : ((sb[j]'jb).toNat : Int) = 101 := by rw [HSG.out j jb jlt, hx]; rfl
        have hin : 101 ∈ sh := by rw [← hx]; exact List.getElem_mem jlt
        have HST : Hid ((1, cm.word, 0) :: Lx.shW cm (sh.take (j + 1)) 0 0 = P ++ Lx.wordsX cm.ex) := Lib.hid (by rw [HST0.out, hx]; rfl)
        have HCN : Hid (Lx.cN (sh.take (j + 1)) = A) := Lib.hid (by rw [HCN0.out, hx]; rfl)
        have HCI : Hid (Lx.cI (sh.take (j + 1)) = I) := Lib.hid (by rw [HCI0.out, hx]; rfl)
        have HWW := Lib.hid (words_any 40 cm.ex D (.agg #[.int .u8 z.p.op, .string z.p.nm, .slice z.an z.nn z.nc, .slice z.aa z.p.k z.ac]) wr (HG.out.ex.keep HX.out.bw) (HOK.out hin).1 (HOK.out hin).2)
        have HWL := Lib.hid (HW9.out hin)
        obtain ⟨lx, hlx⟩ : ∃ l, Lx.wordsX cm.ex = l := ⟨_, rfl⟩
        rw [hlx] at HWW HST HWL
        obtain ⟨M, hM⟩ : ∃ M, lx.length = M := ⟨_, rfl⟩
        have HSN : Hid ((Lx.shW cm (sh.take (j + 1)) 0 0).length + 1 = L + M) := Lib.hid (by have e := congrArg List.length HST.out; rw [List.length_cons, List.length_append, HLL.out, hM] at e; exact e)
        rw [hM] at HWW HWL
        clear HST0 HCN0 HCI0 hx hin hlx hM
        go_wp2_with fail
        (with_reducible refine HWW.out.mono ?_)
        rintro e w4 ⟨oa, oc, rfl, HB4, HT4⟩
        have HX := Lib.hid (HX.out.keep HB4.out)
        have HO := Lib.hid (keepB HO.out HB4.out)
        clear HWW e0 e1 e2 e3 e4 e5 e6 e7 e8 e9 e10
        go_upto_region 6 with (at_builtin; refine appQ rfl (.tmp 88) (.tmp 91) rfl (b + 1) _ _ L P rfl HO.out oa M oc lx rfl HT4.out (by have := HP.out; have := HWL.out; omega) HX.out.lt ?_; intro v5 w5 own gr; have HON := Lib.hid own; have HXN := Lib.hid (HX.out.grown HB0.out gr (fun q e => (HO.out.lt q e).1)); clear own gr)
        have HO := HON
        have HX := HXN
        clear HON HXN
        go_wp2_with fail
        go_roundw
        case rel => exact ⟨j + 1, by omega, by rw [HCN.out]; try go_num, by rw [HCI.out]; try go_num, by go_num, HX, Lib.hid (by have e := HO.out; rw [HST.out, HSN.out]; exact e)⟩
        case measure => simp [intOf]; omega
      · -- the mark =
        have hxx : ((sb[j]'jb).toNat : Int) = 61 := by rw [HSG.out j jb jlt, hx]; rfl
        have HST : Hid ((1, cm.word, 0) :: Lx.shW cm (sh.take (j + 1)) 0 0 = P ++ [(4, [61], 0)]) := Lib.hid (by rw [HST0.out, hx]; rfl)
        have HCN : Hid (Lx.cN (sh.take (j + 1)) = A) := Lib.hid (by rw [HCN0.out, hx]; rfl)
        have HCI : Hid (Lx.cI (sh.take (j + 1)) = I) := Lib.hid (by rw [HCI0.out, hx]; rfl)
        have HSN : Hid ((Lx.shW cm (sh.take (j + 1)) 0 0).length + 1 = L + 1) := Lib.hid (by have e := congrArg List.length HST.out; rw [List.length_cons, List.length_append, HLL.out] at e; exact e)
        clear HST0 HCN0 HCI0 hx
        go_wp2_with fail
        (with_reducible refine (rmark_any ⟨#[61]⟩ _).mono ?_)
        rintro e w4 ⟨rfl, q⟩
        have HX := Lib.hid (HX.out.keep q)
        have HO := Lib.hid (keepB HO.out q)
        clear q e0 e1 e2 e3 e4 e5 e6 e7 e8 e9 e10
        go_upto_region 6 with (at_builtin; refine appQ rfl (.tmp 95) (.tmp 97) rfl (b + 1) _ _ (L) (P) rfl (HO.out.alloc _) (some ⟨w4.heap.size, 0, none⟩) 1 1 [(4, [61], 0)] rfl (tk_block [(4, [61], 0)] (al_new _ _) rfl rfl (by omega)) (by have := HP.out; omega) (Nat.le_trans HX.out.lt (by simp)) ?_; intro v5 w5 own gr; have HON := Lib.hid own; have HXN := Lib.hid ((HX.out.keep ((Below.refl _ w4).alloc (Nat.le_refl _) _)).grown HB0.out gr (fun q e => (HO.out.lt q e).1)); clear own gr)
        have HO := HON
        have HX := HXN
        clear HON HXN
        have e0 := cell_blk HX.out.box 0
        have e1 := cell_blk HX.out.box 1
        have e2 := cell_blk HX.out.box 2
        have e3 := cell_blk HX.out.box 3
        have e4 := cell_blk HX.out.box 4
        have e5 := cell_blk HX.out.box 5
        have e6 := cell_blk HX.out.box 6
        have e7 := cell_blk HX.out.box 7
        have e8 := cell_blk HX.out.box 8
        have e9 := cell_blk HX.out.box 9
        have e10 := cell_blk HX.out.box 10
        go_wp2_with fail
        go_roundw
        case rel => exact ⟨j + 1, by omega, by rw [HCN.out]; try go_num, by rw [HCI.out]; try go_num, by go_num, HX, Lib.hid (by have e := HO.out; rw [HST.out, HSN.out]; exact e)⟩
        case measure => simp [intOf]; omega
      · -- a range
        have hxx : ((sb[j]'jb).toNat : Int) = 114 := by rw [HSG.out j jb jlt, hx]; rfl
        have HCN : Hid (Lx.cN (sh.take (j + 1)) = A) := Lib.hid (by rw [HCN0.out, hx]; rfl)
        have HCI : Hid (Lx.cI (sh.take (j + 1)) = I) := Lib.hid (by rw [HCI0.out, hx]; rfl)
        cases gl
        · cases gh
          · have HST : Hid ((1, cm.word, 0) :: Lx.shW cm (sh.take (j + 1)) 0 0 = P ++ [(4, [91], 0)] ++ [(4, [58], 0)] ++ [(4, [93], 0)]) := Lib.hid (by
              rw [HST0.out, hx]
              have e : Lx.letW cm 114 A I = Lx.rgW cm.rg := rfl
              rw [e, HRG.out]
              simp [Lx.rgW])
            have HSN : Hid ((Lx.shW cm (sh.take (j + 1)) 0 0).length + 1 = L + 1 + 1 + 1) := Lib.hid (by have e := congrArg List.length HST.out; simp only [List.length_cons, List.length_append, List.length_nil, HLL.out] at e; omega)
            clear HST0 HCN0 HCI0 hx
            go_wp2_with fail
            (with_reducible refine (rmark_any ⟨#[91]⟩ _).mono ?_)
            rintro e wm1 ⟨rfl, q⟩
            have HX := Lib.hid (HX.out.keep q)
            have HO := Lib.hid (keepB HO.out q)
            clear q e0 e1 e2 e3 e4 e5 e6 e7 e8 e9 e10
            go_upto_region 9 with (at_builtin; refine appQ rfl (.tmp 28) (.tmp 30) rfl (b + 1) _ _ (L) (P) rfl (HO.out.alloc _) (some ⟨wm1.heap.size, 0, none⟩) 1 1 [(4, [91], 0)] rfl (tk_block [(4, [91], 0)] (al_new _ _) rfl rfl (by omega)) (by have := HP.out; omega) (Nat.le_trans HX.out.lt (by simp)) ?_; intro v10 w10 own gr; have HON := Lib.hid own; have HXN := Lib.hid ((HX.out.keep ((Below.refl _ wm1).alloc (Nat.le_refl _) _)).grown HB0.out gr (fun q e => (HO.out.lt q e).1)); clear own gr)
            have HO := HON
            have HX := HXN
            clear HON HXN
            have e0 := cell_blk HX.out.box 0
            have e1 := cell_blk HX.out.box 1
            have e2 := cell_blk HX.out.box 2
            have e3 := cell_blk HX.out.box 3
            have e4 := cell_blk HX.out.box 4
            have e5 := cell_blk HX.out.box 5
            have e6 := cell_blk HX.out.box 6
            have e7 := cell_blk HX.out.box 7
            have e8 := cell_blk HX.out.box 8
            have e9 := cell_blk HX.out.box 9
            have e10 := cell_blk HX.out.box 10
            go_wp2_with fail
            (with_reducible refine (rmark_any ⟨#[58]⟩ _).mono ?_)
            rintro e wm2 ⟨rfl, q⟩
            have HX := Lib.hid (HX.out.keep q)
            have HO := Lib.hid (keepB HO.out q)
            clear q e0 e1 e2 e3 e4 e5 e6 e7 e8 e9 e10
            go_upto_region 12 with (at_builtin; refine appQ rfl (.tmp 42) (.tmp 44) rfl (b + 1) _ _ (L + 1) (P ++ [(4, [91], 0)]) rfl (HO.out.alloc _) (some ⟨wm2.heap.size, 0, none⟩) 1 1 [(4, [58], 0)] rfl (tk_block [(4, [58], 0)] (al_new _ _) rfl rfl (by omega)) (by have := HP.out; omega) (Nat.le_trans HX.out.lt (by simp)) ?_; intro v11 w11 own gr; have HON := Lib.hid own; have HXN := Lib.hid ((HX.out.keep ((Below.refl _ wm2).alloc (Nat.le_refl _) _)).grown HB0.out gr (fun q e => (HO.out.lt q e).1)); clear own gr)
            have HO := HON
            have HX := HXN
            clear HON HXN
            have e0 := cell_blk HX.out.box 0
            have e1 := cell_blk HX.out.box 1
            have e2 := cell_blk HX.out.box 2
            have e3 := cell_blk HX.out.box 3
            have e4 := cell_blk HX.out.box 4
            have e5 := cell_blk HX.out.box 5
            have e6 := cell_blk HX.out.box 6
            have e7 := cell_blk HX.out.box 7
            have e8 := cell_blk HX.out.box 8
            have e9 := cell_blk HX.out.box 9
            have e10 := cell_blk HX.out.box 10
            go_wp2_with fail
            (with_reducible refine (rmark_any ⟨#[93]⟩ _).mono ?_)
            rintro e wm3 ⟨rfl, q⟩
            have HX := Lib.hid (HX.out.keep q)
            have HO := Lib.hid (keepB HO.out q)
            clear q e0 e1 e2 e3 e4 e5 e6 e7 e8 e9 e10
            go_upto_region 6 with (at_builtin; refine appQ rfl (.tmp 56) (.tmp 58) rfl (b + 1) _ _ (L + 1 + 1) (P ++ [(4, [91], 0)] ++ [(4, [58], 0)]) rfl (HO.out.alloc _) (some ⟨wm3.heap.size, 0, none⟩) 1 1 [(4, [93], 0)] rfl (tk_block [(4, [93], 0)] (al_new _ _) rfl rfl (by omega)) (by have := HP.out; omega) (Nat.le_trans HX.out.lt (by simp)) ?_; intro v12 w12 own gr; have HON := Lib.hid own; have HXN := Lib.hid ((HX.out.keep ((Below.refl _ wm3).alloc (Nat.le_refl _) _)).grown HB0.out gr (fun q e => (HO.out.lt q e).1)); clear own gr)
            have HO := HON
            have HX := HXN
            clear HON HXN
            have e0 := cell_blk HX.out.box 0
            have e1 := cell_blk HX.out.box 1
            have e2 := cell_blk HX.out.box 2
            have e3 := cell_blk HX.out.box 3
            have e4 := cell_blk HX.out.box 4
            have e5 := cell_blk HX.out.box 5
            have e6 := cell_blk HX.out.box 6
            have e7 := cell_blk HX.out.box 7
            have e8 := cell_blk HX.out.box 8
            have e9 := cell_blk HX.out.box 9
            have e10 := cell_blk HX.out.box 10
            go_wp2_with fail
            go_roundw
            case rel => exact ⟨j + 1, by omega, by rw [HCN.out]; try go_num, by rw [HCI.out]; try go_num, by go_num, HX, Lib.hid (by have e := HO.out; rw [HST.out, HSN.out]; exact e)⟩
            case measure => simp [intOf]; omega
          · have HST : Hid ((1, cm.word, 0) :: Lx.shW cm (sh.take (j + 1)) 0 0 = P ++ [(4, [91], 0)] ++ [(4, [58], 0)] ++ [(2, [], hi)] ++ [(4, [93], 0)]) := Lib.hid (by
              rw [HST0.out, hx]
              have e : Lx.letW cm 114 A I = Lx.rgW cm.rg := rfl
              rw [e, HRG.out]
              simp [Lx.rgW])
            have HSN : Hid ((Lx.shW cm (sh.take (j + 1)) 0 0).length + 1 = L + 1 + 1 + 1 + 1) := Lib.hid (by have e := congrArg List.length HST.out; simp only [List.length_cons, List.length_append, List.length_nil, HLL.out] at e; omega)
            clear HST0 HCN0 HCI0 hx
            go_wp2_with fail
            (with_reducible refine (rmark_any ⟨#[91]⟩ _).mono ?_)
            rintro e wm1 ⟨rfl, q⟩
            have HX := Lib.hid (HX.out.keep q)
            have HO := Lib.hid (keepB HO.out q)
            clear q e0 e1 e2 e3 e4 e5 e6 e7 e8 e9 e10
            go_upto_region 9 with (at_builtin; refine appQ rfl (.tmp 28) (.tmp 30) rfl (b + 1) _ _ (L) (P) rfl (HO.out.alloc _) (some ⟨wm1.heap.size, 0, none⟩) 1 1 [(4, [91], 0)] rfl (tk_block [(4, [91], 0)] (al_new _ _) rfl rfl (by omega)) (by have := HP.out; omega) (Nat.le_trans HX.out.lt (by simp)) ?_; intro v10 w10 own gr; have HON := Lib.hid own; have HXN := Lib.hid ((HX.out.keep ((Below.refl _ wm1).alloc (Nat.le_refl _) _)).grown HB0.out gr (fun q e => (HO.out.lt q e).1)); clear own gr)
            have HO := HON
            have HX := HXN
            clear HON HXN
            have e0 := cell_blk HX.out.box 0
            have e1 := cell_blk HX.out.box 1
            have e2 := cell_blk HX.out.box 2
            have e3 := cell_blk HX.out.box 3
            have e4 := cell_blk HX.out.box 4
            have e5 := cell_blk HX.out.box 5
            have e6 := cell_blk HX.out.box 6
            have e7 := cell_blk HX.out.box 7
            have e8 := cell_blk HX.out.box 8
            have e9 := cell_blk HX.out.box 9
            have e10 := cell_blk HX.out.box 10
            go_wp2_with fail
            (with_reducible refine (rmark_any ⟨#[58]⟩ _).mono ?_)
            rintro e wm2 ⟨rfl, q⟩
            have HX := Lib.hid (HX.out.keep q)
            have HO := Lib.hid (keepB HO.out q)
            clear q e0 e1 e2 e3 e4 e5 e6 e7 e8 e9 e10
            go_upto_region 12 with (at_builtin; refine appQ rfl (.tmp 42) (.tmp 44) rfl (b + 1) _ _ (L + 1) (P ++ [(4, [91], 0)]) rfl (HO.out.alloc _) (some ⟨wm2.heap.size, 0, none⟩) 1 1 [(4, [58], 0)] rfl (tk_block [(4, [58], 0)] (al_new _ _) rfl rfl (by omega)) (by have := HP.out; omega) (Nat.le_trans HX.out.lt (by simp)) ?_; intro v11 w11 own gr; have HON := Lib.hid own; have HXN := Lib.hid ((HX.out.keep ((Below.refl _ wm2).alloc (Nat.le_refl _) _)).grown HB0.out gr (fun q e => (HO.out.lt q e).1)); clear own gr)
            have HO := HON
            have HX := HXN
            clear HON HXN
            have e0 := cell_blk HX.out.box 0
            have e1 := cell_blk HX.out.box 1
            have e2 := cell_blk HX.out.box 2
            have e3 := cell_blk HX.out.box 3
            have e4 := cell_blk HX.out.box 4
            have e5 := cell_blk HX.out.box 5
            have e6 := cell_blk HX.out.box 6
            have e7 := cell_blk HX.out.box 7
            have e8 := cell_blk HX.out.box 8
            have e9 := cell_blk HX.out.box 9
            have e10 := cell_blk HX.out.box 10
            go_upto_region 14 with (at_builtin; refine appQ rfl (.tmp 49) (.tmp 54) rfl (b + 1) _ _ (L + 1 + 1) (P ++ [(4, [91], 0)] ++ [(4, [58], 0)]) rfl (HO.out.alloc _) (some ⟨w11.heap.size, 0, none⟩) 1 1 [(2, [], hi)] rfl (tk_block [(2, [], hi)] (al_new _ _) rfl rfl (by omega)) (by have := HP.out; omega) (Nat.le_trans HX.out.lt (by simp)) ?_; intro v12 w12 own gr; have HON := Lib.hid own; have HXN := Lib.hid ((HX.out.keep ((Below.refl _ w11).alloc (Nat.le_refl _) _)).grown HB0.out gr (fun q e => (HO.out.lt q e).1)); clear own gr)
            have HO := HON
            have HX := HXN
            clear HON HXN
            clear e0 e1 e2 e3 e4 e5 e6 e7 e8 e9 e10
            have e0 := cell_blk HX.out.box 0
            have e1 := cell_blk HX.out.box 1
            have e2 := cell_blk HX.out.box 2
            have e3 := cell_blk HX.out.box 3
            have e4 := cell_blk HX.out.box 4
            have e5 := cell_blk HX.out.box 5
            have e6 := cell_blk HX.out.box 6
            have e7 := cell_blk HX.out.box 7
            have e8 := cell_blk HX.out.box 8
            have e9 := cell_blk HX.out.box 9
            have e10 := cell_blk HX.out.box 10
            go_wp2_with fail
            (with_reducible refine (rmark_any ⟨#[93]⟩ _).mono ?_)
            rintro e wm3 ⟨rfl, q⟩
            have HX := Lib.hid (HX.out.keep q)
            have HO := Lib.hid (keepB HO.out q)
            clear q e0 e1 e2 e3 e4 e5 e6 e7 e8 e9 e10
            go_upto_region 6 with (at_builtin; refine appQ rfl (.tmp 56) (.tmp 58) rfl (b + 1) _ _ (L + 1 + 1 + 1) (P ++ [(4, [91], 0)] ++ [(4, [58], 0)] ++ [(2, [], hi)]) rfl (HO.out.alloc _) (some ⟨wm3.heap.size, 0, none⟩) 1 1 [(4, [93], 0)] rfl (tk_block [(4, [93], 0)] (al_new _ _) rfl rfl (by omega)) (by have := HP.out; omega) (Nat.le_trans HX.out.lt (by simp)) ?_; intro v13 w13 own gr; have HON := Lib.hid own; have HXN := Lib.hid ((HX.out.keep ((Below.refl _ wm3).alloc (Nat.le_refl _) _)).grown HB0.out gr (fun q e => (HO.out.lt q e).1)); clear own gr)
            have HO := HON
            have HX := HXN
            clear HON HXN
            have e0 := cell_blk HX.out.box 0
            have e1 := cell_blk HX.out.box 1
            have e2 := cell_blk HX.out.box 2
            have e3 := cell_blk HX.out.box 3
            have e4 := cell_blk HX.out.box 4
            have e5 := cell_blk HX.out.box 5
            have e6 := cell_blk HX.out.box 6
            have e7 := cell_blk HX.out.box 7
            have e8 := cell_blk HX.out.box 8
            have e9 := cell_blk HX.out.box 9
            have e10 := cell_blk HX.out.box 10
            go_wp2_with fail
            go_roundw
            case rel => exact ⟨j + 1, by omega, by rw [HCN.out]; try go_num, by rw [HCI.out]; try go_num, by go_num, HX, Lib.hid (by have e := HO.out; rw [HST.out, HSN.out]; exact e)⟩
            case measure => simp [intOf]; omega
        · cases gh
          · have HST : Hid ((1, cm.word, 0) :: Lx.shW cm (sh.take (j + 1)) 0 0 = P ++ [(4, [91], 0)] ++ [(2, [], lo)] ++ [(4, [58], 0)] ++ [(4, [93], 0)]) := Lib.hid (by
              rw [HST0.out, hx]
              have e : Lx.letW cm 114 A I = Lx.rgW cm.rg := rfl
              rw [e, HRG.out]
              simp [Lx.rgW])
            have HSN : Hid ((Lx.shW cm (sh.take (j + 1)) 0 0).length + 1 = L + 1 + 1 + 1 + 1) := Lib.hid (by have e := congrArg List.length HST.out; simp only [List.length_cons, List.length_append, List.length_nil, HLL.out] at e; omega)
            clear HST0 HCN0 HCI0 hx
            go_wp2_with fail
            (with_reducible refine (rmark_any ⟨#[91]⟩ _).mono ?_)
            rintro e wm1 ⟨rfl, q⟩
            have HX := Lib.hid (HX.out.keep q)
            have HO := Lib.hid (keepB HO.out q)
            clear q e0 e1 e2 e3 e4 e5 e6 e7 e8 e9 e10
            go_upto_region 9 with (at_builtin; refine appQ rfl (.tmp 28) (.tmp 30) rfl (b + 1) _ _ (L) (P) rfl (HO.out.alloc _) (some ⟨wm1.heap.size, 0, none⟩) 1 1 [(4, [91], 0)] rfl (tk_block [(4, [91], 0)] (al_new _ _) rfl rfl (by omega)) (by have := HP.out; omega) (Nat.le_trans HX.out.lt (by simp)) ?_; intro v10 w10 own gr; have HON := Lib.hid own; have HXN := Lib.hid ((HX.out.keep ((Below.refl _ wm1).alloc (Nat.le_refl _) _)).grown HB0.out gr (fun q e => (HO.out.lt q e).1)); clear own gr)
            have HO := HON
            have HX := HXN
            clear HON HXN
            have e0 := cell_blk HX.out.box 0
            have e1 := cell_blk HX.out.box 1
            have e2 := cell_blk HX.out.box 2
            have e3 := cell_blk HX.out.box 3
            have e4 := cell_blk HX.out.box 4
            have e5 := cell_blk HX.out.box 5
            have e6 := cell_blk HX.out.box 6
            have e7 := cell_blk HX.out.box 7
            have e8 := cell_blk HX.out.box 8
            have e9 := cell_blk HX.out.box 9
            have e10 := cell_blk HX.out.box 10
            go_upto_region 11 with (at_builtin; refine appQ rfl (.tmp 35) (.tmp 40) rfl (b + 1) _ _ (L + 1) (P ++ [(4, [91], 0)]) rfl (HO.out.alloc _) (some ⟨w10.heap.size, 0, none⟩) 1 1 [(2, [], lo)] rfl (tk_block [(2, [], lo)] (al_new _ _) rfl rfl (by omega)) (by have := HP.out; omega) (Nat.le_trans HX.out.lt (by simp)) ?_; intro v11 w11 own gr; have HON := Lib.hid own; have HXN := Lib.hid ((HX.out.keep ((Below.refl _ w10).alloc (Nat.le_refl _) _)).grown HB0.out gr (fun q e => (HO.out.lt q e).1)); clear own gr)
            have HO := HON
            have HX := HXN
            clear HON HXN
            clear e0 e1 e2 e3 e4 e5 e6 e7 e8 e9 e10
            have e0 := cell_blk HX.out.box 0
            have e1 := cell_blk HX.out.box 1
            have e2 := cell_blk HX.out.box 2
            have e3 := cell_blk HX.out.box 3
            have e4 := cell_blk HX.out.box 4
            have e5 := cell_blk HX.out.box 5
            have e6 := cell_blk HX.out.box 6
            have e7 := cell_blk HX.out.box 7
            have e8 := cell_blk HX.out.box 8
            have e9 := cell_blk HX.out.box 9
            have e10 := cell_blk HX.out.box 10
            go_wp2_with fail
            (with_reducible refine (rmark_any ⟨#[58]⟩ _).mono ?_)
            rintro e wm2 ⟨rfl, q⟩
            have HX := Lib.hid (HX.out.keep q)
            have HO := Lib.hid (keepB HO.out q)
            clear q e0 e1 e2 e3 e4 e5 e6 e7 e8 e9 e10
            go_upto_region 12 with (at_builtin; refine appQ rfl (.tmp 42) (.tmp 44) rfl (b + 1) _ _ (L + 1 + 1) (P ++ [(4, [91], 0)] ++ [(2, [], lo)]) rfl (HO.out.alloc _) (some ⟨wm2.heap.size, 0, none⟩) 1 1 [(4, [58], 0)] rfl (tk_block [(4, [58], 0)] (al_new _ _) rfl rfl (by omega)) (by have := HP.out; omega) (Nat.le_trans HX.out.lt (by simp)) ?_; intro v12 w12 own gr; have HON := Lib.hid own; have HXN := Lib.hid ((HX.out.keep ((Below.refl _ wm2).alloc (Nat.le_refl _) _)).grown HB0.out gr (fun q e => (HO.out.lt q e).1)); clear own gr)
            have HO := HON
            have HX := HXN
            clear HON HXN
            have e0 := cell_blk HX.out.box 0
            have e1 := cell_blk HX.out.box 1
            have e2 := cell_blk HX.out.box 2
            have e3 := cell_blk HX.out.box 3
            have e4 := cell_blk HX.out.box 4
            have e5 := cell_blk HX.out.box 5
            have e6 := cell_blk HX.out.box 6
            have e7 := cell_blk HX.out.box 7
            have e8 := cell_blk HX.out.box 8
            have e9 := cell_blk HX.out.box 9
            have e10 := cell_blk HX.out.box 10
            go_wp2_with fail
            (with_reducible refine (rmark_any ⟨#[93]⟩ _).mono ?_)
            rintro e wm3 ⟨rfl, q⟩
            have HX := Lib.hid (HX.out.keep q)
            have HO := Lib.hid (keepB HO.out q)
            clear q e0 e1 e2 e3 e4 e5 e6 e7 e8 e9 e10
            go_upto_region 6 with (at_builtin; refine appQ rfl (.tmp 56) (.tmp 58) rfl (b + 1) _ _ (L + 1 + 1 + 1) (P ++ [(4, [91], 0)] ++ [(2, [], lo)] ++ [(4, [58], 0)]) rfl (HO.out.alloc _) (some ⟨wm3.heap.size, 0, none⟩) 1 1 [(4, [93], 0)] rfl (tk_block [(4, [93], 0)] (al_new _ _) rfl rfl (by omega)) (by have := HP.out; omega) (Nat.le_trans HX.out.lt (by simp)) ?_; intro v13 w13 own gr; have HON := Lib.hid own; have HXN := Lib.hid ((HX.out.keep ((Below.refl _ wm3).alloc (Nat.le_refl _) _)).grown HB0.out gr (fun q e => (HO.out.lt q e).1)); clear own gr)
            have HO := HON
            have HX := HXN
            clear HON HXN
            have e0 := cell_blk HX.out.box 0
            have e1 := cell_blk HX.out.box 1
            have e2 := cell_blk HX.out.box 2
            have e3 := cell_blk HX.out.box 3
            have e4 := cell_blk HX.out.box 4
            have e5 := cell_blk HX.out.box 5
            have e6 := cell_blk HX.out.box 6
            have e7 := cell_blk HX.out.box 7
            have e8 := cell_blk HX.out.box 8
            have e9 := cell_blk HX.out.box 9
            have e10 := cell_blk HX.out.box 10
            go_wp2_with fail
            go_roundw
            case rel => exact ⟨j + 1, by omega, by rw [HCN.out]; try go_num, by rw [HCI.out]; try go_num, by go_num, HX, Lib.hid (by have e := HO.out; rw [HST.out, HSN.out]; exact e)⟩
            case measure => simp [intOf]; omega
          · have HST : Hid ((1, cm.word, 0) :: Lx.shW cm (sh.take (j + 1)) 0 0 = P ++ [(4, [91], 0)] ++ [(2, [], lo)] ++ [(4, [58], 0)] ++ [(2, [], hi)] ++ [(4, [93], 0)]) := Lib.hid (by
              rw [HST0.out, hx]
              have e : Lx.letW cm 114 A I = Lx.rgW cm.rg := rfl
              rw [e, HRG.out]
              simp [Lx.rgW])
            have HSN : Hid ((Lx.shW cm (sh.take (j + 1)) 0 0).length + 1 = L + 1 + 1 + 1 + 1 + 1) := Lib.hid (by have e := congrArg List.length HST.out; simp only [List.length_cons, List.length_append, List.length_nil, HLL.out] at e; omega)
            clear HST0 HCN0 HCI0 hx
            go_wp2_with fail
            (with_reducible refine (rmark_any ⟨#[91]⟩ _).mono ?_)
            rintro e wm1 ⟨rfl, q⟩
            have HX := Lib.hid (HX.out.keep q)
            have HO := Lib.hid (keepB HO.out q)
            clear q e0 e1 e2 e3 e4 e5 e6 e7 e8 e9 e10
            go_upto_region 9 with (at_builtin; refine appQ rfl (.tmp 28) (.tmp 30) rfl (b + 1) _ _ (L) (P) rfl (HO.out.alloc _) (some ⟨wm1.heap.size, 0, none⟩) 1 1 [(4, [91], 0)] rfl (tk_block [(4, [91], 0)] (al_new _ _) rfl rfl (by omega)) (by have := HP.out; omega) (Nat.le_trans HX.out.lt (by simp)) ?_; intro v10 w10 own gr; have HON := Lib.hid own; have HXN := Lib.hid ((HX.out.keep ((Below.refl _ wm1).alloc (Nat.le_refl _) _)).grown HB0.out gr (fun q e => (HO.out.lt q e).1)); clear own gr)
            have HO := HON
            have HX := HXN
            clear HON HXN
            have e0 := cell_blk HX.out.box 0
            have e1 := cell_blk HX.out.box 1
            have e2 := cell_blk HX.out.box 2
            have e3 := cell_blk HX.out.box 3
            have e4 := cell_blk HX.out.box 4
            have e5 := cell_blk HX.out.box 5
            have e6 := cell_blk HX.out.box 6
            have e7 := cell_blk HX.out.box 7
            have e8 := cell_blk HX.out.box 8
            have e9 := cell_blk HX.out.box 9
            have e10 := cell_blk HX.out.box 10
            go_upto_region 11 with (at_builtin; refine appQ rfl (.tmp 35) (.tmp 40) rfl (b + 1) _ _ (L + 1) (P ++ [(4, [91], 0)]) rfl (HO.out.alloc _) (some ⟨w10.heap.size, 0, none⟩) 1 1 [(2, [], lo)] rfl (tk_block [(2, [], lo)] (al_new _ _) rfl rfl (by omega)) (by have := HP.out; omega) (Nat.le_trans HX.out.lt (by simp)) ?_; intro v11 w11 own gr; have HON := Lib.hid own; have HXN := Lib.hid ((HX.out.keep ((Below.refl _ w10).alloc (Nat.le_refl _) _)).grown HB0.out gr (fun q e => (HO.out.lt q e).1)); clear own gr)
            have HO := HON
            have HX := HXN
            clear HON HXN
            clear e0 e1 e2 e3 e4 e5 e6 e7 e8 e9 e10
            have e0 := cell_blk HX.out.box 0
            have e1 := cell_blk HX.out.box 1
            have e2 := cell_blk HX.out.box 2
            have e3 := cell_blk HX.out.box 3
            have e4 := cell_blk HX.out.box 4
            have e5 := cell_blk HX.out.box 5
            have e6 := cell_blk HX.out.box 6
            have e7 := cell_blk HX.out.box 7
            have e8 := cell_blk HX.out.box 8
            have e9 := cell_blk HX.out.box 9
            have e10 := cell_blk HX.out.box 10
            go_wp2_with fail
            (with_reducible refine (rmark_any ⟨#[58]⟩ _).mono ?_)
            rintro e wm2 ⟨rfl, q⟩
            have HX := Lib.hid (HX.out.keep q)
            have HO := Lib.hid (keepB HO.out q)
            clear q e0 e1 e2 e3 e4 e5 e6 e7 e8 e9 e10
            go_upto_region 12 with (at_builtin; refine appQ rfl (.tmp 42) (.tmp 44) rfl (b + 1) _ _ (L + 1 + 1) (P ++ [(4, [91], 0)] ++ [(2, [], lo)]) rfl (HO.out.alloc _) (some ⟨wm2.heap.size, 0, none⟩) 1 1 [(4, [58], 0)] rfl (tk_block [(4, [58], 0)] (al_new _ _) rfl rfl (by omega)) (by have := HP.out; omega) (Nat.le_trans HX.out.lt (by simp)) ?_; intro v12 w12 own gr; have HON := Lib.hid own; have HXN := Lib.hid ((HX.out.keep ((Below.refl _ wm2).alloc (Nat.le_refl _) _)).grown HB0.out gr (fun q e => (HO.out.lt q e).1)); clear own gr)
            have HO := HON
            have HX := HXN
            clear HON HXN
            have e0 := cell_blk HX.out.box 0
            have e1 := cell_blk HX.out.box 1
            have e2 := cell_blk HX.out.box 2
            have e3 := cell_blk HX.out.box 3
            have e4 := cell_blk HX.out.box 4
            have e5 := cell_blk HX.out.box 5
            have e6 := cell_blk HX.out.box 6
            have e7 := cell_blk HX.out.box 7
            have e8 := cell_blk HX.out.box 8
            have e9 := cell_blk HX.out.box 9
            have e10 := cell_blk HX.out.box 10
            go_upto_region 14 with (at_builtin; refine appQ rfl (.tmp 49) (.tmp 54) rfl (b + 1) _ _ (L + 1 + 1 + 1) (P ++ [(4, [91], 0)] ++ [(2, [], lo)] ++ [(4, [58], 0)]) rfl (HO.out.alloc _) (some ⟨w12.heap.size, 0, none⟩) 1 1 [(2, [], hi)] rfl (tk_block [(2, [], hi)] (al_new _ _) rfl rfl (by omega)) (by have := HP.out; omega) (Nat.le_trans HX.out.lt (by simp)) ?_; intro v13 w13 own gr; have HON := Lib.hid own; have HXN := Lib.hid ((HX.out.keep ((Below.refl _ w12).alloc (Nat.le_refl _) _)).grown HB0.out gr (fun q e => (HO.out.lt q e).1)); clear own gr)
            have HO := HON
            have HX := HXN
            clear HON HXN
            clear e0 e1 e2 e3 e4 e5 e6 e7 e8 e9 e10
            have e0 := cell_blk HX.out.box 0
            have e1 := cell_blk HX.out.box 1
            have e2 := cell_blk HX.out.box 2
            have e3 := cell_blk HX.out.box 3
            have e4 := cell_blk HX.out.box 4
            have e5 := cell_blk HX.out.box 5
            have e6 := cell_blk HX.out.box 6
            have e7 := cell_blk HX.out.box 7
            have e8 := cell_blk HX.out.box 8
            have e9 := cell_blk HX.out.box 9
            have e10 := cell_blk HX.out.box 10
            go_wp2_with fail
            (with_reducible refine (rmark_any ⟨#[93]⟩ _).mono ?_)
            rintro e wm3 ⟨rfl, q⟩
            have HX := Lib.hid (HX.out.keep q)
            have HO := Lib.hid (keepB HO.out q)
            clear q e0 e1 e2 e3 e4 e5 e6 e7 e8 e9 e10
            go_upto_region 6 with (at_builtin; refine appQ rfl (.tmp 56) (.tmp 58) rfl (b + 1) _ _ (L + 1 + 1 + 1 + 1) (P ++ [(4, [91], 0)] ++ [(2, [], lo)] ++ [(4, [58], 0)] ++ [(2, [], hi)]) rfl (HO.out.alloc _) (some ⟨wm3.heap.size, 0, none⟩) 1 1 [(4, [93], 0)] rfl (tk_block [(4, [93], 0)] (al_new _ _) rfl rfl (by omega)) (by have := HP.out; omega) (Nat.le_trans HX.out.lt (by simp)) ?_; intro v14 w14 own gr; have HON := Lib.hid own; have HXN := Lib.hid ((HX.out.keep ((Below.refl _ wm3).alloc (Nat.le_refl _) _)).grown HB0.out gr (fun q e => (HO.out.lt q e).1)); clear own gr)
            have HO := HON
            have HX := HXN
            clear HON HXN
            have e0 := cell_blk HX.out.box 0
            have e1 := cell_blk HX.out.box 1
            have e2 := cell_blk HX.out.box 2
            have e3 := cell_blk HX.out.box 3
            have e4 := cell_blk HX.out.box 4
            have e5 := cell_blk HX.out.box 5
            have e6 := cell_blk HX.out.box 6
            have e7 := cell_blk HX.out.box 7
            have e8 := cell_blk HX.out.box 8
            have e9 := cell_blk HX.out.box 9
            have e10 := cell_blk HX.out.box 10
            go_wp2_with fail
            go_roundw
            case rel => exact ⟨j + 1, by omega, by rw [HCN.out]; try go_num, by rw [HCI.out]; try go_num, by go_num, HX, Lib.hid (by have e := HO.out; rw [HST.out, HSN.out]; exact e)⟩
            case measure => simp [intOf]; omega
    · have j1 : ¬ (j : Int) < (sb.size : Int) := by have := HSS.out; omega
      obtain rfl : sh.length = j := by omega
      have HTO : Hid ((1, cm.word, 0) :: Lx.shW cm (sh.take sh.length) 0 0 = Lx.toldC cm sh) := Lib.hid (by rw [List.take_length]; rfl)
      have HTL : Hid ((Lx.shW cm (sh.take sh.length) 0 0).length + 1 = (Lx.toldC cm sh).length) := Lib.hid (by rw [← HTO.out]; rfl)
      rw [HTO.out, HTL.out] at HO
      go_wp2_with fail
      obtain ⟨ao, c, rfl, ht⟩ := own_tk2 HO.out rfl
      go_returns
      exact ⟨ao, c, rfl, Lib.hid HX.out.bw, Lib.hid ht⟩
end Go.Proofs.YtllhcpkpbipjlaaDoor
