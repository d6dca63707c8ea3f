/- M33, M34, M30 in one. -/
import Derived.Test.YtllhcpkpbipjlaaDoorKav
namespace Go.Proofs.YtllhcpkpbipjlaaDoor
set_option linter.unusedVariables false
set_option linter.unusedSimpArgs false
open Go.ChangeShapes Go.WideShapes Go.ChangeAt Go.RowKit
set_option maxRecDepth 20000 in
set_option maxHeartbeats 4000000 in
theorem rexpr_wrong (w0 : World) (rb : Nat) (ao : Option Addr) (n c : Nat) (l : List Lx.Tk) (hB : Lx.TkB l) (k : Nat) (hk : k ≤ 40) (IH : k ≠ 0 → ExprOk w0 rb ao n c l (k - 1)) (W : World) (s : Lx.St) (h : Rr w0 W rb ao n c l s) (hs : Lx.PI s) (ca : s.wrong ≠ 0)  :
    Calls Tryd.prog 32 #[.pointer (some ⟨rb, 0, none⟩), .int .i64 (41 - (k : Int))] W fun e w' => ∃ z : Hv, e = .returned (.agg #[.int .u8 z.p.op, .string z.p.nm, .slice z.an z.nn z.nc, .slice z.aa z.p.k z.ac]) ∧ Hid (Rr w0 w' rb ao n c l (Lx.partR l k s).2) ∧ Hid (W.grownBy w' (some rb)) ∧ Hid (ExAt (only (frB W.heap.size) w') (k + 1) (hV z) (tour (Lx.partR l k s).1)) := by
  obtain ⟨b, hb⟩ : ∃ z, W.heap.size = z := ⟨_, rfl⟩
  obtain ⟨w1, hw1⟩ : ∃ z, W.alloc (.cells #[.int .u8 0, .string ⟨#[]⟩, .slice none 0 0, .slice none 0 0] 31) = z := ⟨_, rfl⟩
  have KA : Below W.heap.size W w1 := by rw [← hw1]; exact (Below.refl _ W).alloc (Nat.le_refl _) _
  have HI : Hid (PtR w0 W w1 rb b ao n c l s) := Lib.hid ⟨h.keep KA, grown_of_below KA _, hb, ⟨by have := h.bw.size; omega, by have := h.lt; omega⟩, by rw [← hw1, ← hb, al_new]⟩
  have HTB := Lib.hid hB
  have HIH := Lib.hid IH
  have k0 : (0 : Int) ≤ (k : Int) := by omega
  have k1 : (k : Int) ≤ 40 := by omega
  obtain ⟨c0, c1, c2, c3⟩ := HI.out.rd.cells
  obtain ⟨pt, hpt⟩ : ∃ z, s.parts = z := ⟨_, rfl⟩
  rw [hpt] at c2
  have hsI : (pt : Int) ≤ 2001 := by have := hs.1; omega
  have nl := HI.out.rd.nlt
  have n1 : (n : Int) ≤ 9223372036854775807 := by omega
  have n0 : (0 : Int) ≤ (n : Int) := by omega
  have a0 : (0 : Int) ≤ (s.at_ : Int) := by omega
  have a1 : (s.at_ : Int) ≤ 9223372036854775807 := by have := HI.out.rd.top; omega
  have HE : Hid (Lx.partR l k s = (Lx.leaf [], s)) := Lib.hid (Lx.partR_wrong l k s ca)
  have z2 : (s.wrong != 0) = true := by rw [bne_iff_ne]; exact ca
  clear h KA hB IH ca hs
  go_enter Tryd.func32, Tryd.ntmps32
  go_upto_region 1 with fail
  clear hw1 hb
  have d0 := cell_blk HI.out.res 0
  have d1 := cell_blk HI.out.res 1
  have d2 := cell_blk HI.out.res 2
  have d3 := cell_blk HI.out.res 3
  have g0 := blk_free HI.out.res 0
  have g1 := blk_free HI.out.res 1
  have g2 := blk_free HI.out.res 2
  have g3 := blk_free HI.out.res 3
  go_wp2
  obtain ⟨wf, hwf⟩ : ∃ z, put4 w1 b (.int .u8 0) (.string ⟨#[]⟩) (.slice none 0 0) (.slice none 0 0) = z := ⟨_, rfl⟩
  have hwf' := hwf
  unfold put4 at hwf'
  rw [hwf']
  have XF := put4_on HI.out.res (.int .u8 0) (.string ⟨#[]⟩) (.slice none 0 0) (.slice none 0 0)
  have g := put4_grown w1 b (.int .u8 0) (.string ⟨#[]⟩) (.slice none 0 0) (.slice none 0 0)
  rw [hwf] at g XF
  have r0 := cell_blk XF 0
  have r1 := cell_blk XF 1
  have r2 := cell_blk XF 2
  have r3 := cell_blk XF 3
  refine bodyPost_ret (v := .agg #[.int .u8 0, .string ⟨#[]⟩, .slice none 0 0, .slice none 0 0]) (by simp [results, Tryd.results32, go_sem, r0, r1, r2, r3]) rfl ⟨⟨⟨0, ⟨#[]⟩, [], 0⟩, none, 0, 0, none, 0⟩, rfl, Lib.hid ?_, Lib.hid ?_, Lib.hid ?_⟩
  · rw [HE.out]; exact HI.out.rd.grown g (fun q e => by cases e; have := HI.out.ne; omega)
  · exact grown_new HI.out.gr g (Nat.le_of_eq HI.out.lo)
  · rw [HE.out]
    have hx := ex_leaf' (only (frB W.heap.size) wf) [] (Nat.zero_le _)
    exact hx.more (by omega)
set_option maxRecDepth 20000 in
set_option maxHeartbeats 4000000 in
theorem rexpr_end (w0 : World) (rb : Nat) (ao : Option Addr) (n c : Nat) (l : List Lx.Tk) (hB : Lx.TkB l) (k : Nat) (hk : k ≤ 40) (IH : k ≠ 0 → ExprOk w0 rb ao n c l (k - 1)) (W : World) (s : Lx.St) (h : Rr w0 W rb ao n c l s) (hs : Lx.PI s) (ca : s.wrong = 0) (hx : n ≤ s.at_) :
    Calls Tryd.prog 32 #[.pointer (some ⟨rb, 0, none⟩), .int .i64 (41 - (k : Int))] W fun e w' => ∃ z : Hv, e = .returned (.agg #[.int .u8 z.p.op, .string z.p.nm, .slice z.an z.nn z.nc, .slice z.aa z.p.k z.ac]) ∧ Hid (Rr w0 w' rb ao n c l (Lx.partR l k s).2) ∧ Hid (W.grownBy w' (some rb)) ∧ Hid (ExAt (only (frB W.heap.size) w') (k + 1) (hV z) (tour (Lx.partR l k s).1)) := by
  obtain ⟨b, hb⟩ : ∃ z, W.heap.size = z := ⟨_, rfl⟩
  obtain ⟨w1, hw1⟩ : ∃ z, W.alloc (.cells #[.int .u8 0, .string ⟨#[]⟩, .slice none 0 0, .slice none 0 0] 31) = z := ⟨_, rfl⟩
  have KA : Below W.heap.size W w1 := by rw [← hw1]; exact (Below.refl _ W).alloc (Nat.le_refl _) _
  have HI : Hid (PtR w0 W w1 rb b ao n c l s) := Lib.hid ⟨h.keep KA, grown_of_below KA _, hb, ⟨by have := h.bw.size; omega, by have := h.lt; omega⟩, by rw [← hw1, ← hb, al_new]⟩
  have HTB := Lib.hid hB
  have HIH := Lib.hid IH
  have k0 : (0 : Int) ≤ (k : Int) := by omega
  have k1 : (k : Int) ≤ 40 := by omega
  obtain ⟨c0, c1, c2, c3⟩ := HI.out.rd.cells
  obtain ⟨pt, hpt⟩ : ∃ z, s.parts = z := ⟨_, rfl⟩
  rw [hpt] at c2
  have hsI : (pt : Int) ≤ 2001 := by have := hs.1; omega
  have nl := HI.out.rd.nlt
  have n1 : (n : Int) ≤ 9223372036854775807 := by omega
  have n0 : (0 : Int) ≤ (n : Int) := by omega
  have a0 : (0 : Int) ≤ (s.at_ : Int) := by omega
  have a1 : (s.at_ : Int) ≤ 9223372036854775807 := by have := HI.out.rd.top; omega
  have hn : Lx.isNm l s.at_ = false := by unfold Lx.isNm; rw [HI.out.rd.end_ hx]; rfl
  have hf : ¬ (Lx.isNm l s.at_ = true ∧ (k = 0 ∨ 2000 ≤ s.parts)) := fun q => by rw [hn] at q; exact absurd q.1 (by decide)
  have HPY : Hid (Lx.partR l k s = Lx.partY l k (Lx.nmS l s)) := Lib.hid (Lx.partR_Y l k s ca hf)
  have HNW : Hid (Lx.nmS l s = ([], ⟨s.at_, s.parts + 1, 110⟩)) := Lib.hid (by unfold Lx.nmS; rw [Lx.name_wrong (s := ⟨s.at_, s.parts + 1, s.wrong⟩) hn ca])
  rw [ca] at c3
  have lt' : ¬ (s.at_ : Int) < (n : Int) := by omega
  have lt2 : decide ((s.at_ : Int) < (n : Int)) = false := by simpa using lt'
  clear h KA hB IH hn hf ca hs hx
  go_enter Tryd.func32, Tryd.ntmps32
  go_upto_region 1 with fail
  clear hw1 hb
  go_upto_region 3 with fail
  go_quiet (fail)
  go_upto_region 6 with fail
  clear c0 c1 c2 c3 lt' lt2
  have HI := Lib.hid (HI.out.drew nq)
  obtain ⟨w3, hw3⟩ : ∃ z, w1.drewN nq = z := ⟨_, rfl⟩
  rw [hw3] at HI ⊢
  clear hw3
  have c2 := HI.out.rd.cells.2.2.1
  rw [hpt] at c2
  have f2 := blk_free HI.out.rd.box 2
  have HG4 := Lib.hid (grow_cell w3 ⟨rb, 2, none⟩ (.int .i64 ((pt : Int) + 1)))
  have HR4 : Hid (Rr w0 (w3.setCell ⟨rb, 2, none⟩ (.int .i64 ((pt : Int) + 1))) rb ao n c l ⟨s.at_, s.parts + 1, s.wrong⟩) := Lib.hid (by
    have := HI.out.rd.part (pt + 1)
    rw [hpt]
    exact this)
  go_upto_region 7 with fail
  obtain ⟨w4, hw4⟩ : ∃ z, w3.setCell ⟨rb, 2, none⟩ (.int .i64 ((pt : Int) + 1)) = z := ⟨_, rfl⟩
  rw [hw4] at HG4 HR4 ⊢
  have HI := Lib.hid (HI.out.step HR4.out HG4.out)
  clear hw4 HR4 HG4 c2 f2
  have HN := Lib.hid (rdname_any w0 w4 rb ao n c l _ HI.out.rd)
  rw [← show Lx.nmS l s = Lx.name l ⟨s.at_, s.parts + 1, s.wrong⟩ from rfl, HNW.out] at HN
  dsimp only at HN
  have HE : Hid (Lx.partR l k s = (Lx.leaf [], ⟨s.at_, s.parts + 1, 110⟩)) := Lib.hid (by
    rw [HPY.out, HNW.out]; unfold Lx.partY; rw [if_neg (fun q => absurd (show (110 : Int) = 0 from q.1) (by decide))])
  have HOP := Lib.hid (fun w5 => rop_any ⟨#[]⟩ w5)
  rw [show Lx.opN (⟨#[]⟩ : ByteArray).data.toList = 0 from rfl] at HOP
  have HN : Hid _ := HN
  rw [show (⟨([] : List UInt8).toArray⟩ : ByteArray) = ⟨#[]⟩ from rfl] at HN
  clear HPY HNW
  go_wp2_with fail
  (with_reducible refine HN.out.mono ?_)
  rintro e w5 ⟨rfl, HR5, HG5⟩
  have HI := Lib.hid (HI.out.step HR5.out HG5.out)
  have HOP := Lib.hid (HOP.out w5)
  clear HR5 HG5 HN
  go_wp2_with fail
  (with_reducible refine HOP.out.mono ?_)
  rintro e w6 ⟨rfl, HB6⟩
  have HI := Lib.hid (HI.out.keep HB6)
  clear HOP HB6
  rw [show decide ((0 : Nat) ≠ 0) = false from rfl]
  have d0 := cell_blk HI.out.res 0
  have d1 := cell_blk HI.out.res 1
  have d2 := cell_blk HI.out.res 2
  have d3 := cell_blk HI.out.res 3
  have g0 := blk_free HI.out.res 0
  have g1 := blk_free HI.out.res 1
  have g2 := blk_free HI.out.res 2
  have g3 := blk_free HI.out.res 3
  go_wp2
  obtain ⟨wf, hwf⟩ : ∃ z, put4 w6 b (.int .u8 0) (.string ⟨#[]⟩) (.slice none 0 0) (.slice none 0 0) = z := ⟨_, rfl⟩
  have hwf' := hwf
  unfold put4 at hwf'
  rw [hwf']
  have XF := put4_on HI.out.res (.int .u8 0) (.string ⟨#[]⟩) (.slice none 0 0) (.slice none 0 0)
  have g := put4_grown w6 b (.int .u8 0) (.string ⟨#[]⟩) (.slice none 0 0) (.slice none 0 0)
  rw [hwf] at g XF
  have r0 := cell_blk XF 0
  have r1 := cell_blk XF 1
  have r2 := cell_blk XF 2
  have r3 := cell_blk XF 3
  refine bodyPost_ret (v := .agg #[.int .u8 0, .string ⟨#[]⟩, .slice none 0 0, .slice none 0 0]) (by simp [results, Tryd.results32, go_sem, r0, r1, r2, r3]) rfl ⟨⟨⟨0, ⟨#[]⟩, [], 0⟩, none, 0, 0, none, 0⟩, rfl, Lib.hid ?_, Lib.hid ?_, Lib.hid ?_⟩
  · rw [HE.out]; exact HI.out.rd.grown g (fun q e => by cases e; have := HI.out.ne; omega)
  · exact grown_new HI.out.gr g (Nat.le_of_eq HI.out.lo)
  · rw [HE.out]
    have hx := ex_leaf' (only (frB W.heap.size) wf) [] (Nat.zero_le _)
    exact hx.more (by omega)
set_option maxRecDepth 20000 in
set_option maxHeartbeats 4000000 in
theorem rexpr_kind (w0 : World) (rb : Nat) (ao : Option Addr) (n c : Nat) (l : List Lx.Tk) (hB : Lx.TkB l) (k : Nat) (hk : k ≤ 40) (IH : k ≠ 0 → ExprOk w0 rb ao n c l (k - 1)) (W : World) (s : Lx.St) (h : Rr w0 W rb ao n c l s) (hs : Lx.PI s) (ca : s.wrong = 0) (lt : s.at_ < n) (hk1 : (Lx.tkAt l s.at_).1 ≠ 1) :
    Calls Tryd.prog 32 #[.pointer (some ⟨rb, 0, none⟩), .int .i64 (41 - (k : Int))] W fun e w' => ∃ z : Hv, e = .returned (.agg #[.int .u8 z.p.op, .string z.p.nm, .slice z.an z.nn z.nc, .slice z.aa z.p.k z.ac]) ∧ Hid (Rr w0 w' rb ao n c l (Lx.partR l k s).2) ∧ Hid (W.grownBy w' (some rb)) ∧ Hid (ExAt (only (frB W.heap.size) w') (k + 1) (hV z) (tour (Lx.partR l k s).1)) := by
  obtain ⟨b, hb⟩ : ∃ z, W.heap.size = z := ⟨_, rfl⟩
  obtain ⟨w1, hw1⟩ : ∃ z, W.alloc (.cells #[.int .u8 0, .string ⟨#[]⟩, .slice none 0 0, .slice none 0 0] 31) = z := ⟨_, rfl⟩
  have KA : Below W.heap.size W w1 := by rw [← hw1]; exact (Below.refl _ W).alloc (Nat.le_refl _) _
  have HI : Hid (PtR w0 W w1 rb b ao n c l s) := Lib.hid ⟨h.keep KA, grown_of_below KA _, hb, ⟨by have := h.bw.size; omega, by have := h.lt; omega⟩, by rw [← hw1, ← hb, al_new]⟩
  have HTB := Lib.hid hB
  have HIH := Lib.hid IH
  have k0 : (0 : Int) ≤ (k : Int) := by omega
  have k1 : (k : Int) ≤ 40 := by omega
  obtain ⟨c0, c1, c2, c3⟩ := HI.out.rd.cells
  obtain ⟨pt, hpt⟩ : ∃ z, s.parts = z := ⟨_, rfl⟩
  rw [hpt] at c2
  have hsI : (pt : Int) ≤ 2001 := by have := hs.1; omega
  have nl := HI.out.rd.nlt
  have n1 : (n : Int) ≤ 9223372036854775807 := by omega
  have n0 : (0 : Int) ≤ (n : Int) := by omega
  have a0 : (0 : Int) ≤ (s.at_ : Int) := by omega
  have a1 : (s.at_ : Int) ≤ 9223372036854775807 := by have := HI.out.rd.top; omega
  have hn : Lx.isNm l s.at_ = false := decide_eq_false hk1
  have hf : ¬ (Lx.isNm l s.at_ = true ∧ (k = 0 ∨ 2000 ≤ s.parts)) := fun q => by rw [hn] at q; exact absurd q.1 (by decide)
  have HPY : Hid (Lx.partR l k s = Lx.partY l k (Lx.nmS l s)) := Lib.hid (Lx.partR_Y l k s ca hf)
  have HNW : Hid (Lx.nmS l s = ([], ⟨s.at_, s.parts + 1, 110⟩)) := Lib.hid (by unfold Lx.nmS; rw [Lx.name_wrong (s := ⟨s.at_, s.parts + 1, s.wrong⟩) hn ca])
  rw [ca] at c3
  have lt' : (s.at_ : Int) < (n : Int) := by omega
  obtain ⟨tb, tp, rfl, t0, t1, t2⟩ := HI.out.rd.tok s.at_ lt
  obtain ⟨kk, hkk⟩ : ∃ z, (Lx.tkAt l s.at_).1 = z := ⟨_, rfl⟩
  rw [hkk] at t0 hk1
  have e1 : (kk == 1) = false := by rw [beq_eq_false_iff_ne]; exact hk1
  clear h KA hB IH hn hf ca hs t1 t2 hkk hk1
  go_enter Tryd.func32, Tryd.ntmps32
  go_upto_region 1 with fail
  clear hw1 hb
  go_upto_region 3 with fail
  go_quiet (fail)
  go_upto_region 6 with fail
  clear c0 c1 c2 c3 t0 e1
  have HI := Lib.hid (HI.out.drew nq)
  obtain ⟨w3, hw3⟩ : ∃ z, w1.drewN nq = z := ⟨_, rfl⟩
  rw [hw3] at HI ⊢
  clear hw3
  have c2 := HI.out.rd.cells.2.2.1
  rw [hpt] at c2
  have f2 := blk_free HI.out.rd.box 2
  have HG4 := Lib.hid (grow_cell w3 ⟨rb, 2, none⟩ (.int .i64 ((pt : Int) + 1)))
  have HR4 : Hid (Rr w0 (w3.setCell ⟨rb, 2, none⟩ (.int .i64 ((pt : Int) + 1))) rb (some ⟨tb, tp, none⟩) n c l ⟨s.at_, s.parts + 1, s.wrong⟩) := Lib.hid (by
    have := HI.out.rd.part (pt + 1)
    rw [hpt]
    exact this)
  go_upto_region 7 with fail
  obtain ⟨w4, hw4⟩ : ∃ z, w3.setCell ⟨rb, 2, none⟩ (.int .i64 ((pt : Int) + 1)) = z := ⟨_, rfl⟩
  rw [hw4] at HG4 HR4 ⊢
  have HI := Lib.hid (HI.out.step HR4.out HG4.out)
  clear hw4 HR4 HG4 c2 f2
  have HN := Lib.hid (rdname_any w0 w4 rb (some ⟨tb, tp, none⟩) n c l _ HI.out.rd)
  rw [← show Lx.nmS l s = Lx.name l ⟨s.at_, s.parts + 1, s.wrong⟩ from rfl, HNW.out] at HN
  dsimp only at HN
  have HE : Hid (Lx.partR l k s = (Lx.leaf [], ⟨s.at_, s.parts + 1, 110⟩)) := Lib.hid (by
    rw [HPY.out, HNW.out]; unfold Lx.partY; rw [if_neg (fun q => absurd (show (110 : Int) = 0 from q.1) (by decide))])
  have HOP := Lib.hid (fun w5 => rop_any ⟨#[]⟩ w5)
  rw [show Lx.opN (⟨#[]⟩ : ByteArray).data.toList = 0 from rfl] at HOP
  have HN : Hid _ := HN
  rw [show (⟨([] : List UInt8).toArray⟩ : ByteArray) = ⟨#[]⟩ from rfl] at HN
  clear HPY HNW
  go_wp2_with fail
  (with_reducible refine HN.out.mono ?_)
  rintro e w5 ⟨rfl, HR5, HG5⟩
  have HI := Lib.hid (HI.out.step HR5.out HG5.out)
  have HOP := Lib.hid (HOP.out w5)
  clear HR5 HG5 HN
  go_wp2_with fail
  (with_reducible refine HOP.out.mono ?_)
  rintro e w6 ⟨rfl, HB6⟩
  have HI := Lib.hid (HI.out.keep HB6)
  clear HOP HB6
  rw [show decide ((0 : Nat) ≠ 0) = false from rfl]
  have d0 := cell_blk HI.out.res 0
  have d1 := cell_blk HI.out.res 1
  have d2 := cell_blk HI.out.res 2
  have d3 := cell_blk HI.out.res 3
  have g0 := blk_free HI.out.res 0
  have g1 := blk_free HI.out.res 1
  have g2 := blk_free HI.out.res 2
  have g3 := blk_free HI.out.res 3
  go_wp2
  obtain ⟨wf, hwf⟩ : ∃ z, put4 w6 b (.int .u8 0) (.string ⟨#[]⟩) (.slice none 0 0) (.slice none 0 0) = z := ⟨_, rfl⟩
  have hwf' := hwf
  unfold put4 at hwf'
  rw [hwf']
  have XF := put4_on HI.out.res (.int .u8 0) (.string ⟨#[]⟩) (.slice none 0 0) (.slice none 0 0)
  have g := put4_grown w6 b (.int .u8 0) (.string ⟨#[]⟩) (.slice none 0 0) (.slice none 0 0)
  rw [hwf] at g XF
  have r0 := cell_blk XF 0
  have r1 := cell_blk XF 1
  have r2 := cell_blk XF 2
  have r3 := cell_blk XF 3
  refine bodyPost_ret (v := .agg #[.int .u8 0, .string ⟨#[]⟩, .slice none 0 0, .slice none 0 0]) (by simp [results, Tryd.results32, go_sem, r0, r1, r2, r3]) rfl ⟨⟨⟨0, ⟨#[]⟩, [], 0⟩, none, 0, 0, none, 0⟩, rfl, Lib.hid ?_, Lib.hid ?_, Lib.hid ?_⟩
  · rw [HE.out]; exact HI.out.rd.grown g (fun q e => by cases e; have := HI.out.ne; omega)
  · exact grown_new HI.out.gr g (Nat.le_of_eq HI.out.lo)
  · rw [HE.out]
    have hx := ex_leaf' (only (frB W.heap.size) wf) [] (Nat.zero_le _)
    exact hx.more (by omega)
set_option maxRecDepth 20000 in
set_option maxHeartbeats 4000000 in
theorem rexpr_deep (w0 : World) (rb : Nat) (ao : Option Addr) (n c : Nat) (l : List Lx.Tk) (hB : Lx.TkB l) (k : Nat) (hk : k ≤ 40) (IH : k ≠ 0 → ExprOk w0 rb ao n c l (k - 1)) (W : World) (s : Lx.St) (h : Rr w0 W rb ao n c l s) (hs : Lx.PI s) (ca : s.wrong = 0) (hn : Lx.isNm l s.at_ = true) (kz : k = 0) :
    Calls Tryd.prog 32 #[.pointer (some ⟨rb, 0, none⟩), .int .i64 (41 - (k : Int))] W fun e w' => ∃ z : Hv, e = .returned (.agg #[.int .u8 z.p.op, .string z.p.nm, .slice z.an z.nn z.nc, .slice z.aa z.p.k z.ac]) ∧ Hid (Rr w0 w' rb ao n c l (Lx.partR l k s).2) ∧ Hid (W.grownBy w' (some rb)) ∧ Hid (ExAt (only (frB W.heap.size) w') (k + 1) (hV z) (tour (Lx.partR l k s).1)) := by
  obtain ⟨b, hb⟩ : ∃ z, W.heap.size = z := ⟨_, rfl⟩
  obtain ⟨w1, hw1⟩ : ∃ z, W.alloc (.cells #[.int .u8 0, .string ⟨#[]⟩, .slice none 0 0, .slice none 0 0] 31) = z := ⟨_, rfl⟩
  have KA : Below W.heap.size W w1 := by rw [← hw1]; exact (Below.refl _ W).alloc (Nat.le_refl _) _
  have HI : Hid (PtR w0 W w1 rb b ao n c l s) := Lib.hid ⟨h.keep KA, grown_of_below KA _, hb, ⟨by have := h.bw.size; omega, by have := h.lt; omega⟩, by rw [← hw1, ← hb, al_new]⟩
  have HTB := Lib.hid hB
  have HIH := Lib.hid IH
  have k0 : (0 : Int) ≤ (k : Int) := by omega
  have k1 : (k : Int) ≤ 40 := by omega
  obtain ⟨c0, c1, c2, c3⟩ := HI.out.rd.cells
  obtain ⟨pt, hpt⟩ : ∃ z, s.parts = z := ⟨_, rfl⟩
  rw [hpt] at c2
  have hsI : (pt : Int) ≤ 2001 := by have := hs.1; omega
  have nl := HI.out.rd.nlt
  have n1 : (n : Int) ≤ 9223372036854775807 := by omega
  have n0 : (0 : Int) ≤ (n : Int) := by omega
  have a0 : (0 : Int) ≤ (s.at_ : Int) := by omega
  have a1 : (s.at_ : Int) ≤ 9223372036854775807 := by have := HI.out.rd.top; omega
  have hf : Lx.isNm l s.at_ = true ∧ (k = 0 ∨ 2000 ≤ s.parts) := ⟨hn, .inl kz⟩
  have HF := Lib.hid (fun q => rfail_any w0 (w1.drewN q) rb ao n c l s 111 (HI.out.rd.drew q))
  rw [failR_ok ca] at HF
  rw [ca] at c3
  have HE : Hid (Lx.partR l k s = (Lx.leaf [], ⟨s.at_, s.parts, 111⟩)) := Lib.hid (Lx.partR_full l k s ca hf)
  have lt : s.at_ < n := by have := Lx.isNm_lt hn; rw [HI.out.rd.tk.len] at this; exact this
  have lt' : (s.at_ : Int) < (n : Int) := by omega
  obtain ⟨tb, tp, rfl, t0, t1, t2⟩ := HI.out.rd.tok s.at_ lt
  rw [show (Lx.tkAt l s.at_).1 = 1 from of_decide_eq_true hn] at t0
  have cz1 : (40 : Int) < 41 - (k : Int) := by omega
  clear h KA hB IH hn hf ca hs kz lt t1 t2
  go_enter Tryd.func32, Tryd.ntmps32
  go_upto_region 1 with fail
  clear hw1 hb
  go_upto_region 3 with fail
  go_quiet (fail)
  go_wp2_with fail
  (with_reducible refine (HF.out _).mono ?_)
  rintro e w2 ⟨rfl, HR2, HG2⟩
  have HI := Lib.hid ((HI.out.drew nq).step HR2.out HG2.out)
  clear HF HR2 HG2 c0 c1 c2 c3 t0
  have d0 := cell_blk HI.out.res 0
  have d1 := cell_blk HI.out.res 1
  have d2 := cell_blk HI.out.res 2
  have d3 := cell_blk HI.out.res 3
  have g0 := blk_free HI.out.res 0
  have g1 := blk_free HI.out.res 1
  have g2 := blk_free HI.out.res 2
  have g3 := blk_free HI.out.res 3
  go_wp2
  obtain ⟨wf, hwf⟩ : ∃ z, put4 w2 b (.int .u8 0) (.string ⟨#[]⟩) (.slice none 0 0) (.slice none 0 0) = z := ⟨_, rfl⟩
  have hwf' := hwf
  unfold put4 at hwf'
  rw [hwf']
  have XF := put4_on HI.out.res (.int .u8 0) (.string ⟨#[]⟩) (.slice none 0 0) (.slice none 0 0)
  have g := put4_grown w2 b (.int .u8 0) (.string ⟨#[]⟩) (.slice none 0 0) (.slice none 0 0)
  rw [hwf] at g XF
  have r0 := cell_blk XF 0
  have r1 := cell_blk XF 1
  have r2 := cell_blk XF 2
  have r3 := cell_blk XF 3
  refine bodyPost_ret (v := .agg #[.int .u8 0, .string ⟨#[]⟩, .slice none 0 0, .slice none 0 0]) (by simp [results, Tryd.results32, go_sem, r0, r1, r2, r3]) rfl ⟨⟨⟨0, ⟨#[]⟩, [], 0⟩, none, 0, 0, none, 0⟩, rfl, Lib.hid ?_, Lib.hid ?_, Lib.hid ?_⟩
  · rw [HE.out]; exact HI.out.rd.grown g (fun q e => by cases e; have := HI.out.ne; omega)
  · exact grown_new HI.out.gr g (Nat.le_of_eq HI.out.lo)
  · rw [HE.out]
    have hx := ex_leaf' (only (frB W.heap.size) wf) [] (Nat.zero_le _)
    exact hx.more (by omega)
set_option maxRecDepth 20000 in
set_option maxHeartbeats 4000000 in
theorem rexpr_many (w0 : World) (rb : Nat) (ao : Option Addr) (n c : Nat) (l : List Lx.Tk) (hB : Lx.TkB l) (k : Nat) (hk : k ≤ 40) (IH : k ≠ 0 → ExprOk w0 rb ao n c l (k - 1)) (W : World) (s : Lx.St) (h : Rr w0 W rb ao n c l s) (hs : Lx.PI s) (ca : s.wrong = 0) (hn : Lx.isNm l s.at_ = true) (kz : k ≠ 0) (hp : 2000 ≤ s.parts) :
    Calls Tryd.prog 32 #[.pointer (some ⟨rb, 0, none⟩), .int .i64 (41 - (k : Int))] W fun e w' => ∃ z : Hv, e = .returned (.agg #[.int .u8 z.p.op, .string z.p.nm, .slice z.an z.nn z.nc, .slice z.aa z.p.k z.ac]) ∧ Hid (Rr w0 w' rb ao n c l (Lx.partR l k s).2) ∧ Hid (W.grownBy w' (some rb)) ∧ Hid (ExAt (only (frB W.heap.size) w') (k + 1) (hV z) (tour (Lx.partR l k s).1)) := by
  obtain ⟨b, hb⟩ : ∃ z, W.heap.size = z := ⟨_, rfl⟩
  obtain ⟨w1, hw1⟩ : ∃ z, W.alloc (.cells #[.int .u8 0, .string ⟨#[]⟩, .slice none 0 0, .slice none 0 0] 31) = z := ⟨_, rfl⟩
  have KA : Below W.heap.size W w1 := by rw [← hw1]; exact (Below.refl _ W).alloc (Nat.le_refl _) _
  have HI : Hid (PtR w0 W w1 rb b ao n c l s) := Lib.hid ⟨h.keep KA, grown_of_below KA _, hb, ⟨by have := h.bw.size; omega, by have := h.lt; omega⟩, by rw [← hw1, ← hb, al_new]⟩
  have HTB := Lib.hid hB
  have HIH := Lib.hid IH
  have k0 : (0 : Int) ≤ (k : Int) := by omega
  have k1 : (k : Int) ≤ 40 := by omega
  obtain ⟨c0, c1, c2, c3⟩ := HI.out.rd.cells
  obtain ⟨pt, hpt⟩ : ∃ z, s.parts = z := ⟨_, rfl⟩
  rw [hpt] at c2
  have hsI : (pt : Int) ≤ 2001 := by have := hs.1; omega
  have nl := HI.out.rd.nlt
  have n1 : (n : Int) ≤ 9223372036854775807 := by omega
  have n0 : (0 : Int) ≤ (n : Int) := by omega
  have a0 : (0 : Int) ≤ (s.at_ : Int) := by omega
  have a1 : (s.at_ : Int) ≤ 9223372036854775807 := by have := HI.out.rd.top; omega
  have hf : Lx.isNm l s.at_ = true ∧ (k = 0 ∨ 2000 ≤ s.parts) := ⟨hn, .inr hp⟩
  have HF := Lib.hid (fun q => rfail_any w0 (w1.drewN q) rb ao n c l s 111 (HI.out.rd.drew q))
  rw [failR_ok ca] at HF
  rw [ca] at c3
  have HE : Hid (Lx.partR l k s = (Lx.leaf [], ⟨s.at_, s.parts, 111⟩)) := Lib.hid (Lx.partR_full l k s ca hf)
  have lt : s.at_ < n := by have := Lx.isNm_lt hn; rw [HI.out.rd.tk.len] at this; exact this
  have lt' : (s.at_ : Int) < (n : Int) := by omega
  obtain ⟨tb, tp, rfl, t0, t1, t2⟩ := HI.out.rd.tok s.at_ lt
  rw [show (Lx.tkAt l s.at_).1 = 1 from of_decide_eq_true hn] at t0
  have cz1 : ¬ (40 : Int) < 41 - (k : Int) := by omega
  have cz2 : decide ((40 : Int) < 41 - (k : Int)) = false := by simpa using cz1
  have cp1 : (2000 : Int) ≤ (pt : Int) := by omega
  clear h KA hB IH hn hf ca hs kz lt t1 t2 hp
  go_enter Tryd.func32, Tryd.ntmps32
  go_upto_region 1 with fail
  clear hw1 hb
  go_upto_region 3 with fail
  go_quiet (fail)
  go_wp2_with fail
  (with_reducible refine (HF.out _).mono ?_)
  rintro e w2 ⟨rfl, HR2, HG2⟩
  have HI := Lib.hid ((HI.out.drew nq).step HR2.out HG2.out)
  clear HF HR2 HG2 c0 c1 c2 c3 t0
  have d0 := cell_blk HI.out.res 0
  have d1 := cell_blk HI.out.res 1
  have d2 := cell_blk HI.out.res 2
  have d3 := cell_blk HI.out.res 3
  have g0 := blk_free HI.out.res 0
  have g1 := blk_free HI.out.res 1
  have g2 := blk_free HI.out.res 2
  have g3 := blk_free HI.out.res 3
  go_wp2
  obtain ⟨wf, hwf⟩ : ∃ z, put4 w2 b (.int .u8 0) (.string ⟨#[]⟩) (.slice none 0 0) (.slice none 0 0) = z := ⟨_, rfl⟩
  have hwf' := hwf
  unfold put4 at hwf'
  rw [hwf']
  have XF := put4_on HI.out.res (.int .u8 0) (.string ⟨#[]⟩) (.slice none 0 0) (.slice none 0 0)
  have g := put4_grown w2 b (.int .u8 0) (.string ⟨#[]⟩) (.slice none 0 0) (.slice none 0 0)
  rw [hwf] at g XF
  have r0 := cell_blk XF 0
  have r1 := cell_blk XF 1
  have r2 := cell_blk XF 2
  have r3 := cell_blk XF 3
  refine bodyPost_ret (v := .agg #[.int .u8 0, .string ⟨#[]⟩, .slice none 0 0, .slice none 0 0]) (by simp [results, Tryd.results32, go_sem, r0, r1, r2, r3]) rfl ⟨⟨⟨0, ⟨#[]⟩, [], 0⟩, none, 0, 0, none, 0⟩, rfl, Lib.hid ?_, Lib.hid ?_, Lib.hid ?_⟩
  · rw [HE.out]; exact HI.out.rd.grown g (fun q e => by cases e; have := HI.out.ne; omega)
  · exact grown_new HI.out.gr g (Nat.le_of_eq HI.out.lo)
  · rw [HE.out]
    have hx := ex_leaf' (only (frB W.heap.size) wf) [] (Nat.zero_le _)
    exact hx.more (by omega)

theorem rexpr_step (w0 : World) (rb : Nat) (ao : Option Addr) (n c : Nat) (l : List Lx.Tk) (hB : Lx.TkB l) (k : Nat) (hk : k ≤ 40) (IH : k ≠ 0 → ExprOk w0 rb ao n c l (k - 1)) : ExprOk w0 rb ao n c l k := by
  intro W s h hs
  by_cases ca : s.wrong = 0
  · by_cases lt : s.at_ < n
    · by_cases hk1 : (Lx.tkAt l s.at_).1 = 1
      · have hn : Lx.isNm l s.at_ = true := decide_eq_true hk1
        by_cases kz : k = 0
        · exact rexpr_deep w0 rb ao n c l hB k hk IH W s h hs ca hn kz
        · by_cases hp : s.parts < 2000
          · exact rexpr_name w0 rb ao n c l hB k hk IH W s h hs ca hn kz hp
          · exact rexpr_many w0 rb ao n c l hB k hk IH W s h hs ca hn kz (by omega)
      · exact rexpr_kind w0 rb ao n c l hB k hk IH W s h hs ca lt hk1
    · exact rexpr_end w0 rb ao n c l hB k hk IH W s h hs ca (by omega)
  · exact rexpr_wrong w0 rb ao n c l hB k hk IH W s h hs ca
theorem rexpr_any (w0 : World) (rb : Nat) (ao : Option Addr) (n c : Nat) (l : List Lx.Tk) (hB : Lx.TkB l) : ∀ (k : Nat), k ≤ 40 → ExprOk w0 rb ao n c l k := by
  intro k
  induction k with
  | zero => exact fun hk => rexpr_step w0 rb ao n c l hB 0 hk (fun h => absurd rfl h)
  | succ k ih => exact fun hk => rexpr_step w0 rb ao n c l hB (k + 1) hk (fun _ => ih (by omega))

set_option maxRecDepth 20000 in
set_option maxHeartbeats 4000000 in
theorem rex_any (w : World) (ao : Option Addr) (n c : Nat) (l : List Lx.Tk) (hA : TkAt w ao n c l) (hB : Lx.TkB l) :
    Calls Tryd.prog 14 #[.slice ao n c] w fun e w' => ∃ z : Hv, e = .returned (.tuple #[.agg #[.int .u8 z.p.op, .string z.p.nm, .slice z.an z.nn z.nc, .slice z.aa z.p.k z.ac], .int .i64 (Lx.exprR l).2.1, .int .i64 (Lx.exprR l).2.2]) ∧ Hid (Below w.heap.size w w') ∧ Hid (ExAt (only (frB w.heap.size) w') 41 (hV z) (tour (Lx.exprR l).1)) := by
  obtain ⟨b, hb⟩ : ∃ z, w.heap.size = z := ⟨_, rfl⟩
  obtain ⟨w1, hw1⟩ : ∃ z, (w.alloc (.cells #[.int .u8 0, .string ⟨#[]⟩, .slice none 0 0, .slice none 0 0] 31)).alloc (.cells #[.slice ao n c, .int .i64 0, .int .i64 0, .int .i64 0] 71) = z := ⟨_, rfl⟩
  have KA : Below w.heap.size w w1 := by rw [← hw1]; exact ((Below.refl _ w).alloc (Nat.le_refl _) _).alloc (by simp) _
  have HRB : Hid (w1.heap[b]? = some (.cells #[.int .u8 0, .string ⟨#[]⟩, .slice none 0 0, .slice none 0 0] 31 (0, 0))) := Lib.hid (by rw [← hw1, ← hb, al_old _ _ (by simp), al_new])
  have HR : Hid (Rr w w1 (b + 1) ao n c l ⟨0, 0, 0⟩) := Lib.hid (by
    refine ⟨KA, by omega, ?_, hA, Nat.zero_le _⟩
    rw [← hw1, ← hb]
    have := al_new (w.alloc (.cells #[.int .u8 0, .string ⟨#[]⟩, .slice none 0 0, .slice none 0 0] 31)) (.cells #[.slice ao n c, .int .i64 0, .int .i64 0, .int .i64 0] 71)
    simpa using this)
  have HSZ : Hid (w1.heap.size = b + 2) := Lib.hid (by rw [← hw1, ← hb]; simp)
  have HLO : Hid (w.heap.size = b) := Lib.hid hb
  have HP := Lib.hid (rexpr_any w (b + 1) ao n c l hB 40 (by omega) w1 ⟨0, 0, 0⟩ HR.out (Lx.pi_zero 0))
  rw [show (41 : Int) - ((40 : Nat) : Int) = 1 by decide] at HP
  have HE : Hid (Lx.exprR l = Lx.told l (Lx.leaf []) (Lx.partR l 40 ⟨0, 0, 0⟩)) := Lib.hid rfl
  obtain ⟨⟨F, s2⟩, hz⟩ : ∃ z, Lx.partR l 40 ⟨0, 0, 0⟩ = z := ⟨_, rfl⟩
  rw [hz] at HP HE
  dsimp only at HP
  have hE := HE.out
  unfold Lx.told at hE
  dsimp only at hE
  clear KA hA hB hz HE
  have HW1 := Lib.hid hw1
  clear hw1 hb HR
  have hE2 := Lib.hid hE
  clear hE
  go_enter Tryd.func14, Tryd.ntmps14
  go_upto_region 2 with fail
  rw [HW1.out, HLO.out]
  clear HW1
  go_wp2_with fail
  (with_reducible refine HP.out.mono ?_)
  rintro e w2 ⟨⟨⟨zo, znm, znu, zk⟩, zan, znn, znc, zaa, zac⟩, rfl, HR2, HG2, HX2⟩
  have HRB := Lib.hid (blk_stay HRB.out HG2.out (by omega))
  have HXL := Lib.hid HG2.out.size
  clear HP
  obtain ⟨w3, hw3⟩ : ∃ z, w2.alloc (.cells #[.int .u8 zo, .string znm, .slice zan znn znc, .slice zaa zk zac] 31) = z := ⟨_, rfl⟩
  obtain ⟨xb, hxb⟩ : ∃ z, w2.heap.size = z := ⟨_, rfl⟩
  have KA := Lib.hid (show Below w2.heap.size w2 w3 by rw [← hw3]; exact (Below.refl _ w2).alloc (Nat.le_refl _) _)
  have HXB : Hid (w3.heap[xb]? = some (.cells #[.int .u8 zo, .string znm, .slice zan znn znc, .slice zaa zk zac] 31 (0, 0))) := Lib.hid (by rw [← hw3, ← hxb, al_new])
  have HRB := Lib.hid ((KA.out.block b (Array.getElem?_eq_some_iff.1 HRB.out).1).trans HRB.out)
  have HR3 := Lib.hid (HR2.out.keep KA.out)
  have HXN : Hid (b + 2 ≤ xb) := Lib.hid (by have := HXL.out; have := HSZ.out; omega)
  have HF := Lib.hid (rdend_any w w3 (b + 1) ao n c l s2 HR3.out)
  have HX3 := Lib.hid (HX2.out.sub (w' := only (frB w1.heap.size) w3) (only_sub (fun q e lt => ⟨e, KA.out.block q lt⟩)))
  unfold endV at HF
  obtain ⟨sf, hsf⟩ : ∃ z, Lx.failed l s2 = z := ⟨_, rfl⟩
  rw [hsf] at HF hE2
  clear HR2 HG2 HX2 HXL hsf
  by_cases hw : sf.wrong = 0
  · have HE : Hid (Lx.exprR l = (F, -1, 0)) := Lib.hid (by rw [hE2.out, if_pos hw])
    rw [if_pos hw, hw] at HF
    clear hw hE2
    go_upto_region 3 with fail
    clear hw3 hxb
    go_wp2_with fail
    (with_reducible refine HF.out.mono ?_)
    rintro e w4 ⟨rfl, HG4⟩
    have HRB := Lib.hid (blk_stay HRB.out HG4.out (by omega))
    have HXB := Lib.hid (blk_stay HXB.out HG4.out (by have := HXN.out; omega))
    have HX4 := Lib.hid (HX3.out.sub (w' := only (frB w1.heap.size) w4) (only_sub (fun q e lt => ⟨e, HG4.out.block q lt (fun e' => by have := le_frB e; have := HSZ.out; cases e'; omega)⟩)))
    have HBW : Hid (Below w.heap.size w w4) := Lib.hid (below_grown HR3.out.bw HG4.out (fun q e => by cases e; exact HR3.out.lo) HR3.out.bw.size)
    clear HX3 HG4 HF KA HR3
    have d0 := cell_blk HRB.out 0
    have d1 := cell_blk HRB.out 1
    have d2 := cell_blk HRB.out 2
    have d3 := cell_blk HRB.out 3
    have g0 := blk_free HRB.out 0
    have g1 := blk_free HRB.out 1
    have g2 := blk_free HRB.out 2
    have g3 := blk_free HRB.out 3
    have x0 := cell_blk HXB.out 0
    have x1 := cell_blk HXB.out 1
    have x2 := cell_blk HXB.out 2
    have x3 := cell_blk HXB.out 3
    go_wp2
    obtain ⟨wf, hwf⟩ : ∃ z, put4 w4 b (.int .u8 zo) (.string znm) (.slice zan znn znc) (.slice zaa zk zac) = z := ⟨_, rfl⟩
    have hwf' := hwf
    unfold put4 at hwf'
    rw [hwf']
    have XF := put4_on HRB.out (.int .u8 zo) (.string znm) (.slice zan znn znc) (.slice zaa zk zac)
    have g := put4_grown w4 b (.int .u8 zo) (.string znm) (.slice zan znn znc) (.slice zaa zk zac)
    rw [hwf] at g XF
    have r0 := cell_blk XF 0
    have r1 := cell_blk XF 1
    have r2 := cell_blk XF 2
    have r3 := cell_blk XF 3
    refine bodyPost_ret (v := .tuple #[.agg #[.int .u8 zo, .string znm, .slice zan znn znc, .slice zaa zk zac], .int .i64 (-1), .int .i64 0]) (by simp [results, Tryd.results14, go_sem, r0, r1, r2, r3]) rfl ⟨⟨⟨zo, znm, znu, zk⟩, zan, znn, znc, zaa, zac⟩, by rw [HE.out], Lib.hid ?_, Lib.hid ?_⟩
    · exact below_grown HBW.out g (fun q e => by cases e; have := HLO.out; omega) HBW.out.size
    · rw [HE.out]
      refine HX4.out.sub (only_sub (fun q e lt => ⟨frB_le (by have := le_frB e; have := HSZ.out; have := HLO.out; omega), g.block q lt (fun e' => ?_)⟩))
      have := le_frB e
      have := HSZ.out
      cases e'
      omega
  · have HE : Hid (Lx.exprR l = (Lx.leaf [], (sf.at_ : Int), sf.wrong)) := Lib.hid (by rw [hE2.out, if_neg hw])
    rw [if_neg hw] at HF
    have hw2 : (sf.wrong != 0) = true := by simpa using hw
    obtain ⟨xa, hxa⟩ : ∃ z, sf.at_ = z := ⟨_, rfl⟩
    obtain ⟨xw, hxw⟩ : ∃ z, sf.wrong = z := ⟨_, rfl⟩
    rw [hxa, hxw] at HF HE
    rw [hxw] at hw2
    clear hw hE2 hxa hxw
    go_upto_region 3 with fail
    clear hw3 hxb
    go_wp2_with fail
    (with_reducible refine HF.out.mono ?_)
    rintro e w4 ⟨rfl, HG4⟩
    have HRB := Lib.hid (blk_stay HRB.out HG4.out (by omega))
    have HBW : Hid (Below w.heap.size w w4) := Lib.hid (below_grown HR3.out.bw HG4.out (fun q e => by cases e; exact HR3.out.lo) HR3.out.bw.size)
    clear HX3 HG4 HF KA HR3
    have d0 := cell_blk HRB.out 0
    have d1 := cell_blk HRB.out 1
    have d2 := cell_blk HRB.out 2
    have d3 := cell_blk HRB.out 3
    have g0 := blk_free HRB.out 0
    have g1 := blk_free HRB.out 1
    have g2 := blk_free HRB.out 2
    have g3 := blk_free HRB.out 3
    go_wp2
    obtain ⟨wf, hwf⟩ : ∃ z, put4 w4 b (.int .u8 0) (.string ⟨#[]⟩) (.slice none 0 0) (.slice none 0 0) = z := ⟨_, rfl⟩
    have hwf' := hwf
    unfold put4 at hwf'
    rw [hwf']
    have XF := put4_on HRB.out (.int .u8 0) (.string ⟨#[]⟩) (.slice none 0 0) (.slice none 0 0)
    have g := put4_grown w4 b (.int .u8 0) (.string ⟨#[]⟩) (.slice none 0 0) (.slice none 0 0)
    rw [hwf] at g XF
    have r0 := cell_blk XF 0
    have r1 := cell_blk XF 1
    have r2 := cell_blk XF 2
    have r3 := cell_blk XF 3
    refine bodyPost_ret (v := .tuple #[.agg #[.int .u8 0, .string ⟨#[]⟩, .slice none 0 0, .slice none 0 0], .int .i64 (xa : Int), .int .i64 xw]) (by simp [results, Tryd.results14, go_sem, r0, r1, r2, r3]) rfl ⟨⟨⟨0, ⟨#[]⟩, [], 0⟩, none, 0, 0, none, 0⟩, by rw [HE.out], Lib.hid ?_, Lib.hid ?_⟩
    · exact below_grown HBW.out g (fun q e => by cases e; have := HLO.out; omega) HBW.out.size
    · rw [HE.out]
      exact (ex_leaf' (only (frB w.heap.size) wf) [] (Nat.zero_le _)).more (by omega)
end Go.Proofs.YtllhcpkpbipjlaaDoor
