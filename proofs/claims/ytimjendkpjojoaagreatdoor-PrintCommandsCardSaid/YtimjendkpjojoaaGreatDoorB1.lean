/- PrintBack's walk. -/
import Derived.Test.YtimjendkpjojoaaGreatDoorKu
import Derived.Test.YtimjendkpjojoaaGreatDoorKad
import Derived.Test.YtimjendkpjojoaaGreatDoorKal
import Derived.Test.YtimjendkpjojoaaGreatDoorKaf
namespace Go.Proofs.YtimjendkpjojoaaGreatDoor
set_option linter.unusedVariables false
set_option linter.unusedSimpArgs false
open Go.ChangeShapes Go.WideShapes Go.ChangeAt Go.RowKit

/-- All tables. -/
structure Tz (w : World) : Prop where
  tp : Tp w
  tx : Tx w
  tw : Tabw w
theorem Tz.keep {w w' : World} (h : Tz w) (q : Below w.heap.size w w') : Tz w' := ⟨h.tp.keep q, h.tx.keep q, h.tw.keep q⟩
structure By2 (w0 w : World) (b1 b2 : Nat) (c1 c2 : Array Value) : Prop where
  bw : Below w0.heap.size w0 w
  x1 : w.heap[b1]? = some (.cells c1 25 (0, 0))
  x2 : w.heap[b2]? = some (.cells c2 25 (0, 0))
theorem By2.keep {w0 w w' : World} {b1 b2 : Nat} {c1 c2 : Array Value} (h : By2 w0 w b1 b2 c1 c2) (q : Below w.heap.size w w') : By2 w0 w' b1 b2 c1 c2 := ⟨h.bw.trans (q.mono h.bw.size), blk_below h.x1 q, blk_below h.x2 q⟩
theorem line_inj {w : World} {n m : Nat} {v u : Value} {x y : Lx.Ex} (hE : ExAt w n v (tour x)) (hU : ExAt w m u (tour y)) (h : RightL (tour x 1)) (k : RightL (tour y 1)) (e : Lx.lineX x = Lx.lineX y) : x = y := by
  have a := ex_words one_name one_num hE h
  have b := ex_words one_name one_num hU k
  rw [e, b] at a
  have c : Lx.wordsX y = Lx.wordsX x := congrArg Prod.fst a
  have o1 := right_ok h (ex_fine hE 1)
  have o2 := right_ok k (ex_fine hU 1)
  have d1 := Lx.back_all o1.1 o1.2
  have d2 := Lx.back_all o2.1 o2.2
  rw [c, d1] at d2
  exact congrArg Prod.fst d2
theorem read_line {w : World} {n : Nat} {v : Value} {x : Lx.Ex} (hE : ExAt w n v (tour x)) (h : RightL (tour x 1)) (W : World) (hT : Tx W) : Calls Tryz.prog 9 #[.string ⟨(Lx.lineX x).toArray⟩] W fun e w' => ∃ ao c, e = .returned (.tuple #[.slice ao (Lx.wordsX x).length c, .int .i64 (-1)]) ∧ Hid (Below W.heap.size W w') ∧ Hid (TkAt w' ao (Lx.wordsX x).length c (Lx.wordsX x)) := by
  have a := ex_words one_name one_num hE h
  have l := (right_len hE h).2
  refine (words_any ⟨(Lx.lineX x).toArray⟩ W hT (by rw [len_toArray]; omega)).mono ?_
  rintro e w' ⟨v', rfl, h1, h2⟩
  have h1 := h1.out
  rw [show (⟨(Lx.lineX x).toArray⟩ : ByteArray).data.toList = Lx.lineX x from rfl, a] at h1
  dsimp only at h1
  obtain ⟨ao, c, rfl, hk⟩ := own_tk h1
  exact ⟨ao, c, by rw [show (⟨(Lx.lineX x).toArray⟩ : ByteArray).data.toList = Lx.lineX x from rfl, a], h2, Lib.hid hk⟩
set_option maxRecDepth 20000 in
set_option maxHeartbeats 4000000 in
theorem printBack_walk (n : Nat) (v : Value) (F : Tour) (m : Nat) (u : Value) (G : Tour) (w : World) (hT : Tz w) (hE : ExAt w n v F) (hU : ExAt w m u G) :
    Calls Tryz.prog 3 #[v, u] w fun e w' => e = .returned (.bool true) ∧ Below w.heap.size w w' := by
  obtain ⟨x, rfl⟩ := tour_ex n v F hE
  obtain ⟨y, rfl⟩ := tour_ex m u G hU
  have HAW := Lib.hid (fun W (k : Below w.heap.size w W) => awake_any W (hT.tp.keep k))
  have HCX := Lib.hid (fun W (k : Below w.heap.size w W) => count_any n v (tour x) W (hE.keep k))
  have HCY := Lib.hid (fun W (k : Below w.heap.size w W) => count_any m u (tour y) W (hU.keep k))
  obtain ⟨c, hc⟩ : ∃ z, (run cntW 0 (wl (tour x 1))).1 = z := ⟨_, rfl⟩
  obtain ⟨d, hd⟩ : ∃ z, (run cntW 0 (wl (tour y 1))).1 = z := ⟨_, rfl⟩
  rw [hc] at HCX
  rw [hd] at HCY
  obtain ⟨r, hr⟩ : ∃ r : Bool, r = true ↔ RightL (tour x 1) := by classical exact ⟨decide _, decide_eq_true_iff⟩
  obtain ⟨s, hs⟩ : ∃ s : Bool, s = true ↔ RightL (tour y 1) := by classical exact ⟨decide _, decide_eq_true_iff⟩
  obtain ⟨t, ht⟩ : ∃ t : Bool, t = true ↔ tour x = tour y := by classical exact ⟨decide _, decide_eq_true_iff⟩
  have HPX := Lib.hid (fun W (k : Below w.heap.size w W) => pexpr_any n v x W (hT.tp.keep k) (hE.keep k) r hr)
  have HPY := Lib.hid (fun W (k : Below w.heap.size w W) => pexpr_any m u y W (hT.tp.keep k) (hU.keep k) s hs)
  have HRX := Lib.hid (fun W (k : Below w.heap.size w W) => right_any n v (tour x) W (hT.tp.needs.keep k) (hE.keep k) r hr)
  have HSY := Lib.hid (fun W (k : Below w.heap.size w W) => same_any n v (tour x) m u (tour y) W (hE.keep k) (hU.keep k) t ht)
  have HSZ := Lib.hid (fun W (k : Below w.heap.size w W) (z : Value) (hz : ExAt W 41 z (tour x)) => same_any n v (tour x) 41 z (tour x) W (hE.keep k) hz true ⟨fun _ => rfl, fun _ => rfl⟩)
  have HWD := Lib.hid (fun W (k : Below w.heap.size w W) (h : r = true) => read_line hE (hr.1 h) W (hT.tx.keep k))
  have HTKB : Hid (r = true → Lx.TkB (Lx.wordsX x) ∧ Lx.exprE (Lx.wordsX x) = (x, -1, 0)) := Lib.hid (fun h => by
    have o := right_ok (hr.1 h) (ex_fine hE 1)
    exact ⟨tkb_words 40 x 1 o.1 (ex_fine hE 1), Lx.back_all o.1 o.2⟩)
  have HEX := Lib.hid (fun W ao n c l (k : Below w.heap.size w W) (h1 : TkAt W ao n c l) (h2 : Lx.TkB l) => expr_any W ao n c l h1 h2 (hT.tp.needs.keep k) (hT.tw.keep k))
  have HEQ : Hid (r = true → s = true → (Lx.lineX x = Lx.lineX y ↔ t = true)) := Lib.hid (fun h k => ⟨fun e => ht.2 (by rw [line_inj hE hU (hr.1 h) (hs.1 k) e]), fun e => by rw [(tour_eq x y).1 (ht.1 e)]⟩)
  obtain ⟨SX, hSX⟩ : ∃ z : ByteArray, ⟨(Lx.lineX x).toArray⟩ = z := ⟨_, rfl⟩
  obtain ⟨SY, hSY⟩ : ∃ z : ByteArray, ⟨(Lx.lineX y).toArray⟩ = z := ⟨_, rfl⟩
  have HEQ2 : Hid (r = true → s = true → (SX.toList == SY.toList) = t) := Lib.hid (fun h k => by
    have := HEQ.out h k
    rw [Bool.eq_iff_iff, beq_iff_eq, ← this, ← hSX, ← hSY, ByteArray.toList_eq, ByteArray.toList_eq])
  rw [hSX] at HPX HWD
  rw [hSY] at HPY
  obtain ⟨TX, hTX⟩ : ∃ z : ByteArray, (if r = true then SX else ⟨#[]⟩) = z := ⟨_, rfl⟩
  obtain ⟨EX, hEX⟩ : ∃ z : Int, (if r = true then 0 else 110) = z := ⟨_, rfl⟩
  obtain ⟨TY, hTY⟩ : ∃ z : ByteArray, (if s = true then SY else ⟨#[]⟩) = z := ⟨_, rfl⟩
  obtain ⟨EY, hEY⟩ : ∃ z : Int, (if s = true then 0 else 110) = z := ⟨_, rfl⟩
  rw [hTX, hEX] at HPX
  rw [hTY, hEY] at HPY
  have HTX := Lib.hid hTX
  have HEX1 := Lib.hid hEX
  have HTY := Lib.hid hTY
  have HEY1 := Lib.hid hEY
  clear hTX hEX hTY hEY
  obtain ⟨p, an, nn, nc, aa, ac, rfl, hh⟩ := hE.head
  obtain ⟨q, bn, mn, mc, ba, bc, rfl, hh2⟩ := hU.head
  clear HEQ hSX hSY hc hd hr hs ht hh hh2 hT hE hU
  obtain ⟨b1, hb1⟩ : ∃ z, w.heap.size = z := ⟨_, rfl⟩
  obtain ⟨w1, hw1⟩ : ∃ z, w.alloc (.cells #[.int .u8 p.op, .string p.nm, .slice an nn nc, .slice aa p.k ac] 25) = z := ⟨_, rfl⟩
  have h1 : w1.heap[b1]? = some (.cells #[.int .u8 p.op, .string p.nm, .slice an nn nc, .slice aa p.k ac] 25 (0, 0)) := by rw [← hw1, ← hb1, al_new]
  have q1 : Below w.heap.size w w1 := by rw [← hw1]; exact (Below.refl _ w).alloc (Nat.le_refl _) _
  obtain ⟨b2, hb2⟩ : ∃ z, w1.heap.size = z := ⟨_, rfl⟩
  obtain ⟨w2, hw2⟩ : ∃ z, w1.alloc (.cells #[.int .u8 q.op, .string q.nm, .slice bn mn mc, .slice ba q.k bc] 25) = z := ⟨_, rfl⟩
  have h2 : w2.heap[b2]? = some (.cells #[.int .u8 q.op, .string q.nm, .slice bn mn mc, .slice ba q.k bc] 25 (0, 0)) := by rw [← hw2, ← hb2, al_new]
  have q2 : Below w1.heap.size w1 w2 := by rw [← hw2]; exact (Below.refl _ w1).alloc (Nat.le_refl _) _
  have HB : Hid (By2 w w2 b1 b2 #[.int .u8 p.op, .string p.nm, .slice an nn nc, .slice aa p.k ac] #[.int .u8 q.op, .string q.nm, .slice bn mn mc, .slice ba q.k bc]) := Lib.hid ⟨q1.trans (q2.mono q1.size), blk_below h1 q2, h2⟩
  clear q1 q2 h1 h2
  have e0 := cell_blk HB.out.x1 0
  have e1 := cell_blk HB.out.x1 1
  have e2 := cell_blk HB.out.x1 2
  have e3 := cell_blk HB.out.x1 3
  have f0 := cell_blk HB.out.x2 0
  have f1 := cell_blk HB.out.x2 1
  have f2 := cell_blk HB.out.x2 2
  have f3 := cell_blk HB.out.x2 3
  go_enter Tryz.func3, Tryz.ntmps3
  go_upto_region 1 with fail
  try rw [hw1]
  try rw [hb1]
  try rw [hw2]
  try rw [hb2]
  clear hw1 hb1 hw2 hb2
  go_wp2_with fail
  (with_reducible refine (HCX.out _ HB.out.bw).mono ?_)
  rintro e wz ⟨rfl, q⟩
  have HB := Lib.hid (HB.out.keep q)
  clear q
  clear e0 e1 e2 e3 f0 f1 f2 f3
  have e0 := cell_blk HB.out.x1 0
  have e1 := cell_blk HB.out.x1 1
  have e2 := cell_blk HB.out.x1 2
  have e3 := cell_blk HB.out.x1 3
  have f0 := cell_blk HB.out.x2 0
  have f1 := cell_blk HB.out.x2 1
  have f2 := cell_blk HB.out.x2 2
  have f3 := cell_blk HB.out.x2 3
  by_cases c1 : (3000 : Int) < c
  · skip
    have HXA := Lib.hid (HAW.out _ HB.out.bw)
    go_wp2_with fail
    (with_reducible refine HXA.out.mono ?_)
    rintro e wy ⟨rfl, q⟩
    go_wp2_with fail
    go_returns
    exact ⟨rfl, HB.out.bw.trans (q.mono HB.out.bw.size)⟩
  · have c2 : decide ((3000 : Int) < c) = false := by simpa using c1
    go_wp2_with fail
    (with_reducible refine (HCY.out _ HB.out.bw).mono ?_)
    rintro e wz ⟨rfl, q⟩
    have HB := Lib.hid (HB.out.keep q)
    clear q
    clear e0 e1 e2 e3 f0 f1 f2 f3
    have e0 := cell_blk HB.out.x1 0
    have e1 := cell_blk HB.out.x1 1
    have e2 := cell_blk HB.out.x1 2
    have e3 := cell_blk HB.out.x1 3
    have f0 := cell_blk HB.out.x2 0
    have f1 := cell_blk HB.out.x2 1
    have f2 := cell_blk HB.out.x2 2
    have f3 := cell_blk HB.out.x2 3
    by_cases d1 : (3000 : Int) < d
    · skip
      have HXA := Lib.hid (HAW.out _ HB.out.bw)
      go_wp2_with fail
      (with_reducible refine HXA.out.mono ?_)
      rintro e wy ⟨rfl, q⟩
      go_wp2_with fail
      go_returns
      exact ⟨rfl, HB.out.bw.trans (q.mono HB.out.bw.size)⟩
    have d2 : decide ((3000 : Int) < d) = false := by simpa using d1
    go_wp2_with fail
    (with_reducible refine (HPX.out _ HB.out.bw).mono ?_)
    rintro e wz ⟨rfl, q⟩
    have HB := Lib.hid (HB.out.keep q)
    clear q
    clear e0 e1 e2 e3 f0 f1 f2 f3
    have e0 := cell_blk HB.out.x1 0
    have e1 := cell_blk HB.out.x1 1
    have e2 := cell_blk HB.out.x1 2
    have e3 := cell_blk HB.out.x1 3
    have f0 := cell_blk HB.out.x2 0
    have f1 := cell_blk HB.out.x2 1
    have f2 := cell_blk HB.out.x2 2
    have f3 := cell_blk HB.out.x2 3
    go_wp2_with fail
    (with_reducible refine (HPY.out _ HB.out.bw).mono ?_)
    rintro e wz ⟨rfl, q⟩
    have HB := Lib.hid (HB.out.keep q)
    clear q
    clear e0 e1 e2 e3 f0 f1 f2 f3
    have e0 := cell_blk HB.out.x1 0
    have e1 := cell_blk HB.out.x1 1
    have e2 := cell_blk HB.out.x1 2
    have e3 := cell_blk HB.out.x1 3
    have f0 := cell_blk HB.out.x2 0
    have f1 := cell_blk HB.out.x2 1
    have f2 := cell_blk HB.out.x2 2
    have f3 := cell_blk HB.out.x2 3
    clear HPX HPY HCX HCY
    cases r
    · obtain rfl : EX = 110 := HEX1.out.symm
      obtain rfl : TX = ⟨#[]⟩ := HTX.out.symm
      clear HWD HTKB HEQ2 HSY HSZ HEX HEX1 HTX HTY HEY1
      go_wp2_with fail
      (with_reducible refine (HRX.out _ HB.out.bw).mono ?_)
      rintro e wz ⟨rfl, q⟩
      have HB := Lib.hid (HB.out.keep q)
      clear q
      clear e0 e1 e2 e3 f0 f1 f2 f3
      have e0 := cell_blk HB.out.x1 0
      have e1 := cell_blk HB.out.x1 1
      have e2 := cell_blk HB.out.x1 2
      have e3 := cell_blk HB.out.x1 3
      have f0 := cell_blk HB.out.x2 0
      have f1 := cell_blk HB.out.x2 1
      have f2 := cell_blk HB.out.x2 2
      have f3 := cell_blk HB.out.x2 3
      go_wp2_with fail
      (with_reducible refine (HRX.out _ HB.out.bw).mono ?_)
      rintro e wz ⟨rfl, q⟩
      have HB := Lib.hid (HB.out.keep q)
      clear q
      clear e0 e1 e2 e3 f0 f1 f2 f3
      have e0 := cell_blk HB.out.x1 0
      have e1 := cell_blk HB.out.x1 1
      have e2 := cell_blk HB.out.x1 2
      have e3 := cell_blk HB.out.x1 3
      have f0 := cell_blk HB.out.x2 0
      have f1 := cell_blk HB.out.x2 1
      have f2 := cell_blk HB.out.x2 2
      have f3 := cell_blk HB.out.x2 3
      have HXA := Lib.hid (HAW.out _ HB.out.bw)
      go_wp2_with fail
      (with_reducible refine HXA.out.mono ?_)
      rintro e wy ⟨rfl, q⟩
      go_wp2_with fail
      go_returns
      exact ⟨rfl, HB.out.bw.trans (q.mono HB.out.bw.size)⟩
    have HWD2 : Hid (∀ W (k : Below w.heap.size w W), Calls Tryz.prog 9 #[.string SX] W fun e w' => ∃ ao c, e = .returned (.tuple #[.slice ao (Lx.wordsX x).length c, .int .i64 (-1)]) ∧ Hid (Below W.heap.size W w') ∧ Hid (TkAt w' ao (Lx.wordsX x).length c (Lx.wordsX x))) := Lib.hid (fun W k => HWD.out W k (by trivial))
    have HTKB2 : Hid (Lx.TkB (Lx.wordsX x) ∧ Lx.exprE (Lx.wordsX x) = (x, -1, 0)) := Lib.hid (HTKB.out (by trivial))
    have HEQ3 : Hid (s = true → (SX.toList == SY.toList) = t) := Lib.hid (HEQ2.out (by trivial))
    obtain rfl : EX = 0 := HEX1.out.symm
    obtain rfl : SX = TX := HTX.out
    clear HWD HTKB HEQ2 HEX1 HTX
    go_wp2_with fail
    (with_reducible refine (HRX.out _ HB.out.bw).mono ?_)
    rintro e wz ⟨rfl, q⟩
    have HB := Lib.hid (HB.out.keep q)
    clear q
    clear e0 e1 e2 e3 f0 f1 f2 f3
    have e0 := cell_blk HB.out.x1 0
    have e1 := cell_blk HB.out.x1 1
    have e2 := cell_blk HB.out.x1 2
    have e3 := cell_blk HB.out.x1 3
    have f0 := cell_blk HB.out.x2 0
    have f1 := cell_blk HB.out.x2 1
    have f2 := cell_blk HB.out.x2 2
    have f3 := cell_blk HB.out.x2 3
    obtain ⟨lw, hlw⟩ : ∃ lw, Lx.wordsX x = lw := ⟨_, rfl⟩
    rw [hlw] at HWD2 HTKB2
    obtain ⟨L, hL⟩ : ∃ L, lw.length = L := ⟨_, rfl⟩
    rw [hL] at HWD2
    clear hlw hL
    go_wp2_with fail
    (with_reducible refine (HWD2.out _ HB.out.bw).mono ?_)
    rintro e w4 ⟨ao, cc, rfl, q, HTK⟩
    have HB := Lib.hid (HB.out.keep q.out)
    clear q
    clear e0 e1 e2 e3 f0 f1 f2 f3
    have HX := Lib.hid (HEX.out w4 ao L cc lw HB.out.bw HTK.out HTKB2.out.1)
    rw [HTKB2.out.2] at HX
    dsimp only at HX
    go_wp2_with fail
    (with_reducible refine HX.out.mono ?_)
    rintro e w5 ⟨zz, rfl, HB5, HE5⟩
    obtain ⟨b8, hb8⟩ : ∃ z, w5.heap.size = z := ⟨_, rfl⟩
    obtain ⟨w6, hw6⟩ : ∃ y, w5.alloc (.cells #[.int .u8 zz.p.op, .string zz.p.nm, .slice zz.an zz.nn zz.nc, .slice zz.aa zz.p.k zz.ac] 25) = y := ⟨_, rfl⟩
    have KA : Below w5.heap.size w5 w6 := by rw [← hw6]; exact (Below.refl _ w5).alloc (Nat.le_refl _) _
    have H8 : Hid (w6.heap[b8]? = some (.cells #[.int .u8 zz.p.op, .string zz.p.nm, .slice zz.an zz.nn zz.nc, .slice zz.aa zz.p.k zz.ac] 25 (0, 0))) := Lib.hid (by rw [← hw6, ← hb8, al_new])
    have HB := Lib.hid ((HB.out.keep HB5.out).keep KA)
    have HE6 : Hid (ExAt w6 41 (.agg #[.int .u8 zz.p.op, .string zz.p.nm, .slice zz.an zz.nn zz.nc, .slice zz.aa zz.p.k zz.ac]) (tour x)) := Lib.hid ((HE5.out.sub only_all).keep KA)
    have HWX := Lib.hid hw6
    have HBX := Lib.hid hb8
    clear HX HB5 HE5 KA hw6 hb8
    go_upto_region 9 with fail
    rw [HWX.out, HBX.out]
    clear HWX HBX
    have e0 := cell_blk HB.out.x1 0
    have e1 := cell_blk HB.out.x1 1
    have e2 := cell_blk HB.out.x1 2
    have e3 := cell_blk HB.out.x1 3
    have f0 := cell_blk HB.out.x2 0
    have f1 := cell_blk HB.out.x2 1
    have f2 := cell_blk HB.out.x2 2
    have f3 := cell_blk HB.out.x2 3
    have g0 := cell_blk H8.out 0
    have g1 := cell_blk H8.out 1
    have g2 := cell_blk H8.out 2
    have g3 := cell_blk H8.out 3
    go_wp2_with fail
    (with_reducible refine (HSZ.out _ HB.out.bw (.agg #[.int .u8 zz.p.op, .string zz.p.nm, .slice zz.an zz.nn zz.nc, .slice zz.aa zz.p.k zz.ac]) HE6.out).mono ?_)
    rintro e w7 ⟨rfl, q⟩
    have HB := Lib.hid (HB.out.keep q)
    clear q HE6 H8 g0 g1 g2 g3
    clear e0 e1 e2 e3 f0 f1 f2 f3
    have e0 := cell_blk HB.out.x1 0
    have e1 := cell_blk HB.out.x1 1
    have e2 := cell_blk HB.out.x1 2
    have e3 := cell_blk HB.out.x1 3
    have f0 := cell_blk HB.out.x2 0
    have f1 := cell_blk HB.out.x2 1
    have f2 := cell_blk HB.out.x2 2
    have f3 := cell_blk HB.out.x2 3
    cases s
    · obtain rfl : EY = 110 := HEY1.out.symm
      have HXA := Lib.hid (HAW.out _ HB.out.bw)
      go_wp2_with fail
      (with_reducible refine HXA.out.mono ?_)
      rintro e wy ⟨rfl, q⟩
      go_wp2_with fail
      go_returns
      exact ⟨rfl, HB.out.bw.trans (q.mono HB.out.bw.size)⟩
    have HEQ4 : (SX.toList == SY.toList) = t := HEQ3.out (by trivial)
    obtain rfl : EY = 0 := HEY1.out.symm
    obtain rfl : SY = TY := HTY.out
    clear HEY1 HTY HEQ3
    cases t
    · skip
      go_wp2_with fail
      (with_reducible refine (HSY.out _ HB.out.bw).mono ?_)
      rintro e wz ⟨rfl, q⟩
      have HB := Lib.hid (HB.out.keep q)
      clear q
      clear e0 e1 e2 e3 f0 f1 f2 f3
      have e0 := cell_blk HB.out.x1 0
      have e1 := cell_blk HB.out.x1 1
      have e2 := cell_blk HB.out.x1 2
      have e3 := cell_blk HB.out.x1 3
      have f0 := cell_blk HB.out.x2 0
      have f1 := cell_blk HB.out.x2 1
      have f2 := cell_blk HB.out.x2 2
      have f3 := cell_blk HB.out.x2 3
      have HXA := Lib.hid (HAW.out _ HB.out.bw)
      go_wp2_with fail
      (with_reducible refine HXA.out.mono ?_)
      rintro e wy ⟨rfl, q⟩
      go_wp2_with fail
      go_returns
      exact ⟨rfl, HB.out.bw.trans (q.mono HB.out.bw.size)⟩
    · skip
      go_wp2_with fail
      (with_reducible refine (HSY.out _ HB.out.bw).mono ?_)
      rintro e wz ⟨rfl, q⟩
      have HB := Lib.hid (HB.out.keep q)
      clear q
      clear e0 e1 e2 e3 f0 f1 f2 f3
      have e0 := cell_blk HB.out.x1 0
      have e1 := cell_blk HB.out.x1 1
      have e2 := cell_blk HB.out.x1 2
      have e3 := cell_blk HB.out.x1 3
      have f0 := cell_blk HB.out.x2 0
      have f1 := cell_blk HB.out.x2 1
      have f2 := cell_blk HB.out.x2 2
      have f3 := cell_blk HB.out.x2 3
      have HXA := Lib.hid (HAW.out _ HB.out.bw)
      go_wp2_with fail
      (with_reducible refine HXA.out.mono ?_)
      rintro e wy ⟨rfl, q⟩
      go_wp2_with fail
      go_returns
      exact ⟨rfl, HB.out.bw.trans (q.mono HB.out.bw.size)⟩
end Go.Proofs.YtimjendkpjojoaaGreatDoor
