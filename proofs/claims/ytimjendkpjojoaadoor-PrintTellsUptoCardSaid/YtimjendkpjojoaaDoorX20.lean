/- PrintTells, its walk. -/
import Derived.Test.YtimjendkpjojoaaDoorX19
namespace Go.Proofs.YtimjendkpjojoaaDoor
set_option linter.unusedVariables false
set_option linter.unusedSimpArgs false
open Go.ChangeShapes Go.WideShapes Go.ChangeAt Go.RowKit

structure Bz (w0 w : World) (b1 b2 : Nat) (c1 c2 : Array Value) : Prop where
  bw : Below w0.heap.size w0 w
  x1 : w.heap[b1]? = some (.cells c1 25 (0, 0))
  x2 : w.heap[b2]? = some (.cells c2 30 (0, 0))
theorem Bz.keep {w0 w w' : World} {b1 b2 : Nat} {c1 c2 : Array Value} (h : Bz w0 w b1 b2 c1 c2) (q : Below w.heap.size w w') : Bz w0 w' b1 b2 c1 c2 := ⟨h.bw.trans (q.mono h.bw.size), blk_below h.x1 q, blk_below h.x2 q⟩
structure CB (cm : Lx.Cm) : Prop where
  b1 : cm.word.length ≤ maxLen
  b2 : ∀ x ∈ cm.names, x.length ≤ maxLen
  b3 : ∀ z ∈ cm.nums, -9223372036854775808 ≤ z ∧ z ≤ 9223372036854775807
  b4 : (-9223372036854775808 ≤ cm.rg.low ∧ cm.rg.low ≤ 9223372036854775807) ∧ (-9223372036854775808 ≤ cm.rg.high ∧ cm.rg.high ≤ 9223372036854775807)
set_option maxRecDepth 20000 in
set_option maxHeartbeats 4000000 in
theorem printTells_walk (n : Nat) (v : Value) (F : Tour) (D : Nat) (cm : Lx.Cm) (g : Cg) (w : World) (hT : Tp w) (hE0 : ExAt w n v F) (hn : n ≤ 1048576) (hl : (F 1).length ≤ 1048576) (hg : CG w D cm g) (hD : D ≤ 1048576) (hgl : (tour cm.ex 1).length ≤ 1048576) (hcb : CB cm) :
    Calls Tryd.prog 3 #[v, .agg #[.string g.wb, .slice g.an g.nl g.nc, .slice g.am g.ml g.mc, .int .i64 g.lo, .int .i64 g.hi, .bool g.hl, .bool g.hh, .int .u8 g.z.p.op, .string g.z.p.nm, .slice g.z.an g.z.nn g.z.nc, .slice g.z.aa g.z.p.k g.z.ac]] w fun e w' => e = .returned (.bool true) ∧ Below w.heap.size w w' := by
  obtain ⟨x, rfl⟩ := tour_ex n v F hE0
  have HAW := Lib.hid (fun W (k : Below w.heap.size w W) => awake_any W (hT.keep k))
  have HCT := Lib.hid (fun W (k : Below w.heap.size w W) => rcount_any n v (tour x) W (hE0.keep k) hl)
  have HCU := Lib.hid (fun W (k : Below w.heap.size w W) => rcount_any D (hV g.z) (tour cm.ex) W (hg.ex.keep k) hgl)
  obtain ⟨c, hc⟩ : ∃ y : Int, ((tour x 1).length : Int) = y := ⟨_, rfl⟩
  obtain ⟨d, hd⟩ : ∃ y : Int, ((tour cm.ex 1).length : Int) = y := ⟨_, rfl⟩
  rw [hc] at HCT
  rw [hd] at HCU
  obtain ⟨r, hr⟩ : ∃ r : Bool, r = true ↔ RightL (tour x 1) := by classical exact ⟨decide _, decide_eq_true_iff⟩
  obtain ⟨s, hs⟩ : ∃ s : Bool, s = true ↔ RightC cm := by classical exact ⟨decide _, decide_eq_true_iff⟩
  have HPE := Lib.hid (fun W (k : Below w.heap.size w W) => pexpr_any n v x W (hT.keep k) (hE0.keep k) r hr)
  have HRE := Lib.hid (fun W (k : Below w.heap.size w W) => rexpr_any n v x W (hE0.keep k) hn hl r hr)
  have HPC := Lib.hid (fun W (k : Below w.heap.size w W) => pcmd_any W D cm g (hT.keep k) (hg.keep k) hcb.b2 hcb.b3 hcb.b4 s hs)
  have HRC := Lib.hid (fun W (k : Below w.heap.size w W) => rcmd_any W D cm g (hg.keep k) hD hgl hcb.b3 hcb.b4 s hs)
  have HPR : Hid (∀ W (k : Below w.heap.size w W), Calls Tryd.prog 11 #[.agg #[.string g.wb, .slice g.an g.nl g.nc, .slice g.am g.ml g.mc, .int .i64 g.lo, .int .i64 g.hi, .bool g.hl, .bool g.hh, .int .u8 g.z.p.op, .string g.z.p.nm, .slice g.z.an g.z.nn g.z.nc, .slice g.z.aa g.z.p.k g.z.ac]] W fun e w' => e = .returned (.bool s) ∧ Below W.heap.size W w') := Lib.hid (fun W k => pright_any W D cm g (hT.needs.keep k) (hg.keep k) hcb.b2 s hs)
  have HRR : Hid (∀ W (k : Below w.heap.size w W), Calls Tryd.prog 12 #[.agg #[.string g.wb, .slice g.an g.nl g.nc, .slice g.am g.ml g.mc, .int .i64 g.lo, .int .i64 g.hi, .bool g.hl, .bool g.hh, .int .u8 g.z.p.op, .string g.z.p.nm, .slice g.z.an g.z.nn g.z.nc, .slice g.z.aa g.z.p.k g.z.ac]] W fun e w' => e = .returned (.bool s) ∧ Below W.heap.size W w') := Lib.hid (fun W k => cright_any W D cm g (hg.keep k) hD hgl s hs)
  unfold cgC at HRC
  unfold hV pv at HCU
  obtain ⟨SX, hSX⟩ : ∃ y : ByteArray, (if r = true then ⟨(Lx.lineX x).toArray⟩ else ⟨#[]⟩) = y := ⟨_, rfl⟩
  obtain ⟨EX, hEX⟩ : ∃ y : Int, (if r = true then 0 else 110) = y := ⟨_, rfl⟩
  obtain ⟨SC, hSC⟩ : ∃ y : ByteArray, (if s = true then ⟨(Lx.lineC cm ((Lx.shape cm.word).getD [])).toArray⟩ else ⟨#[]⟩) = y := ⟨_, rfl⟩
  obtain ⟨EC, hEC⟩ : ∃ y : Int, (if s = true then 0 else 110) = y := ⟨_, rfl⟩
  rw [hSX, hEX] at HPE HRE
  rw [hSC, hEC] at HPC HRC
  obtain ⟨p, an, nn, nc, aa, ac, rfl, hh⟩ := hE0.head
  try unfold pv at HCT HPE HRE ⊢
  clear hc hd hr hs hSX hEX hSC hEC hh hT hE0 hn hl hg hD hgl hcb
  obtain ⟨b1, hb1⟩ : ∃ z, w.heap.size = z := ⟨_, rfl⟩
  obtain ⟨w1, hw1⟩ : ∃ y, w.alloc (.cells #[.int .u8 p.op, .string p.nm, .slice an nn nc, .slice aa p.k ac] 25) = y := ⟨_, rfl⟩
  have h1 : w1.heap[b1]? = some (.cells #[.int .u8 p.op, .string p.nm, .slice an nn nc, .slice aa p.k ac] 25 (0, 0)) := by rw [← hw1, ← hb1, al_new]
  have q1 : Below w.heap.size w w1 := by rw [← hw1]; exact (Below.refl _ w).alloc (Nat.le_refl _) _
  obtain ⟨b2, hb2⟩ : ∃ z, w1.heap.size = z := ⟨_, rfl⟩
  obtain ⟨w2, hw2⟩ : ∃ y, w1.alloc (.cells #[.string g.wb, .slice g.an g.nl g.nc, .slice g.am g.ml g.mc, .int .i64 g.lo, .int .i64 g.hi, .bool g.hl, .bool g.hh, .int .u8 g.z.p.op, .string g.z.p.nm, .slice g.z.an g.z.nn g.z.nc, .slice g.z.aa g.z.p.k g.z.ac] 30) = y := ⟨_, rfl⟩
  have h2 : w2.heap[b2]? = some (.cells #[.string g.wb, .slice g.an g.nl g.nc, .slice g.am g.ml g.mc, .int .i64 g.lo, .int .i64 g.hi, .bool g.hl, .bool g.hh, .int .u8 g.z.p.op, .string g.z.p.nm, .slice g.z.an g.z.nn g.z.nc, .slice g.z.aa g.z.p.k g.z.ac] 30 (0, 0)) := by rw [← hw2, ← hb2, al_new]
  have q2 : Below w1.heap.size w1 w2 := by rw [← hw2]; exact (Below.refl _ w1).alloc (Nat.le_refl _) _
  have HB : Hid (Bz w w2 b1 b2 #[.int .u8 p.op, .string p.nm, .slice an nn nc, .slice aa p.k ac] #[.string g.wb, .slice g.an g.nl g.nc, .slice g.am g.ml g.mc, .int .i64 g.lo, .int .i64 g.hi, .bool g.hl, .bool g.hh, .int .u8 g.z.p.op, .string g.z.p.nm, .slice g.z.an g.z.nn g.z.nc, .slice g.z.aa g.z.p.k g.z.ac]) := Lib.hid ⟨q1.trans (q2.mono q1.size), blk_below h1 q2, h2⟩
  have HSS : Hid (∀ W, Bz w W b1 b2 #[.int .u8 p.op, .string p.nm, .slice an nn nc, .slice aa p.k ac] #[.string g.wb, .slice g.an g.nl g.nc, .slice g.am g.ml g.mc, .int .i64 g.lo, .int .i64 g.hi, .bool g.hl, .bool g.hh, .int .u8 g.z.p.op, .string g.z.p.nm, .slice g.z.an g.z.nn g.z.nc, .slice g.z.aa g.z.p.k g.z.ac] → W.cell? ⟨b2, 0, none⟩ = some (.string g.wb) ∧ W.cell? ⟨b2, 1, none⟩ = some (.slice g.an g.nl g.nc) ∧ W.cell? ⟨b2, 2, none⟩ = some (.slice g.am g.ml g.mc) ∧ W.cell? ⟨b2, 3, none⟩ = some (.int .i64 g.lo) ∧ W.cell? ⟨b2, 4, none⟩ = some (.int .i64 g.hi) ∧ W.cell? ⟨b2, 5, none⟩ = some (.bool g.hl) ∧ W.cell? ⟨b2, 6, none⟩ = some (.bool g.hh) ∧ W.cell? ⟨b2, 7, none⟩ = some (.int .u8 g.z.p.op) ∧ W.cell? ⟨b2, 8, none⟩ = some (.string g.z.p.nm) ∧ W.cell? ⟨b2, 9, none⟩ = some (.slice g.z.an g.z.nn g.z.nc) ∧ W.cell? ⟨b2, 10, none⟩ = some (.slice g.z.aa g.z.p.k g.z.ac) ∧ Hid (Bz w W b1 b2 #[.int .u8 p.op, .string p.nm, .slice an nn nc, .slice aa p.k ac] #[.string g.wb, .slice g.an g.nl g.nc, .slice g.am g.ml g.mc, .int .i64 g.lo, .int .i64 g.hi, .bool g.hl, .bool g.hh, .int .u8 g.z.p.op, .string g.z.p.nm, .slice g.z.an g.z.nn g.z.nc, .slice g.z.aa g.z.p.k g.z.ac])) := Lib.hid (fun W h => ⟨cell_blk h.x2 0, cell_blk h.x2 1, cell_blk h.x2 2, cell_blk h.x2 3, cell_blk h.x2 4, cell_blk h.x2 5, cell_blk h.x2 6, cell_blk h.x2 7, cell_blk h.x2 8, cell_blk h.x2 9, cell_blk h.x2 10, Lib.hid h⟩)
  clear q1 q2 h1 h2
  have e0 := cell_blk HB.out.x1 0
  have e1 := cell_blk HB.out.x1 1
  have e2 := cell_blk HB.out.x1 2
  have e3 := cell_blk HB.out.x1 3
  have f0 := cell_blk HB.out.x2 0
  have f1 := cell_blk HB.out.x2 1
  have f2 := cell_blk HB.out.x2 2
  have f3 := cell_blk HB.out.x2 3
  have f4 := cell_blk HB.out.x2 4
  have f5 := cell_blk HB.out.x2 5
  have f6 := cell_blk HB.out.x2 6
  have f7 := cell_blk HB.out.x2 7
  have f8 := cell_blk HB.out.x2 8
  have f9 := cell_blk HB.out.x2 9
  have f10 := cell_blk HB.out.x2 10
  go_enter Tryd.func3, Tryd.ntmps3
  go_upto_region 1 with fail
  try rw [hw1]
  try rw [hb1]
  try rw [hw2]
  try rw [hb2]
  clear hw1 hb1 hw2 hb2
  go_wp2_with fail
  (with_reducible refine (HCT.out _ HB.out.bw).mono ?_)
  rintro e wz ⟨rfl, q⟩
  have HB := Lib.hid (HB.out.keep q)
  clear q HCT e0 e1 e2 e3 f0 f1 f2 f3 f4 f5 f6 f7 f8 f9 f10
  have e0 := cell_blk HB.out.x1 0
  have e1 := cell_blk HB.out.x1 1
  have e2 := cell_blk HB.out.x1 2
  have e3 := cell_blk HB.out.x1 3
  have f0 := cell_blk HB.out.x2 0
  have f1 := cell_blk HB.out.x2 1
  have f2 := cell_blk HB.out.x2 2
  have f3 := cell_blk HB.out.x2 3
  have f4 := cell_blk HB.out.x2 4
  have f5 := cell_blk HB.out.x2 5
  have f6 := cell_blk HB.out.x2 6
  have f7 := cell_blk HB.out.x2 7
  have f8 := cell_blk HB.out.x2 8
  have f9 := cell_blk HB.out.x2 9
  have f10 := cell_blk HB.out.x2 10
  by_cases c1 : (3000 : Int) < c
  · skip
    have HXA := Lib.hid (HAW.out _ HB.out.bw)
    go_wp2_with fail
    (with_reducible refine HXA.out.mono ?_)
    rintro e wy ⟨rfl, q⟩
    go_wp2_with fail
    go_returns
    exact ⟨rfl, HB.out.bw.trans (q.mono HB.out.bw.size)⟩
  · have c2 : decide ((3000 : Int) < c) = false := by simpa using c1
    go_wp2_with fail
    (with_reducible refine (HCU.out _ HB.out.bw).mono ?_)
    rintro e wz ⟨rfl, q⟩
    have HB := Lib.hid (HB.out.keep q)
    clear q HCU e0 e1 e2 e3 f0 f1 f2 f3 f4 f5 f6 f7 f8 f9 f10
    have e0 := cell_blk HB.out.x1 0
    have e1 := cell_blk HB.out.x1 1
    have e2 := cell_blk HB.out.x1 2
    have e3 := cell_blk HB.out.x1 3
    have f0 := cell_blk HB.out.x2 0
    have f1 := cell_blk HB.out.x2 1
    have f2 := cell_blk HB.out.x2 2
    have f3 := cell_blk HB.out.x2 3
    have f4 := cell_blk HB.out.x2 4
    have f5 := cell_blk HB.out.x2 5
    have f6 := cell_blk HB.out.x2 6
    have f7 := cell_blk HB.out.x2 7
    have f8 := cell_blk HB.out.x2 8
    have f9 := cell_blk HB.out.x2 9
    have f10 := cell_blk HB.out.x2 10
    by_cases d1 : (3000 : Int) < d
    · skip
      have HXA := Lib.hid (HAW.out _ HB.out.bw)
      go_wp2_with fail
      (with_reducible refine HXA.out.mono ?_)
      rintro e wy ⟨rfl, q⟩
      go_wp2_with fail
      go_returns
      exact ⟨rfl, HB.out.bw.trans (q.mono HB.out.bw.size)⟩
    have d2 : decide ((3000 : Int) < d) = false := by simpa using d1
    go_wp2_with fail
    (with_reducible refine (HPE.out _ HB.out.bw).mono ?_)
    rintro e wz ⟨rfl, q⟩
    have HB := Lib.hid (HB.out.keep q)
    clear q HPE e0 e1 e2 e3 f0 f1 f2 f3 f4 f5 f6 f7 f8 f9 f10
    have e0 := cell_blk HB.out.x1 0
    have e1 := cell_blk HB.out.x1 1
    have e2 := cell_blk HB.out.x1 2
    have e3 := cell_blk HB.out.x1 3
    have f0 := cell_blk HB.out.x2 0
    have f1 := cell_blk HB.out.x2 1
    have f2 := cell_blk HB.out.x2 2
    have f3 := cell_blk HB.out.x2 3
    have f4 := cell_blk HB.out.x2 4
    have f5 := cell_blk HB.out.x2 5
    have f6 := cell_blk HB.out.x2 6
    have f7 := cell_blk HB.out.x2 7
    have f8 := cell_blk HB.out.x2 8
    have f9 := cell_blk HB.out.x2 9
    have f10 := cell_blk HB.out.x2 10
    go_wp2_with fail
    (with_reducible refine (HRE.out _ HB.out.bw).mono ?_)
    rintro e wz ⟨rfl, q⟩
    have HB := Lib.hid (HB.out.keep q)
    clear q HRE e0 e1 e2 e3 f0 f1 f2 f3 f4 f5 f6 f7 f8 f9 f10
    have e0 := cell_blk HB.out.x1 0
    have e1 := cell_blk HB.out.x1 1
    have e2 := cell_blk HB.out.x1 2
    have e3 := cell_blk HB.out.x1 3
    have f0 := cell_blk HB.out.x2 0
    have f1 := cell_blk HB.out.x2 1
    have f2 := cell_blk HB.out.x2 2
    have f3 := cell_blk HB.out.x2 3
    have f4 := cell_blk HB.out.x2 4
    have f5 := cell_blk HB.out.x2 5
    have f6 := cell_blk HB.out.x2 6
    have f7 := cell_blk HB.out.x2 7
    have f8 := cell_blk HB.out.x2 8
    have f9 := cell_blk HB.out.x2 9
    have f10 := cell_blk HB.out.x2 10
    go_wp2_with fail
    (with_reducible refine (HPC.out _ HB.out.bw).mono ?_)
    rintro e wz ⟨rfl, q⟩
    have HB := Lib.hid (HB.out.keep q)
    clear q HPC e0 e1 e2 e3 f0 f1 f2 f3 f4 f5 f6 f7 f8 f9 f10
    have e0 := cell_blk HB.out.x1 0
    have e1 := cell_blk HB.out.x1 1
    have e2 := cell_blk HB.out.x1 2
    have e3 := cell_blk HB.out.x1 3
    have f0 := cell_blk HB.out.x2 0
    have f1 := cell_blk HB.out.x2 1
    have f2 := cell_blk HB.out.x2 2
    have f3 := cell_blk HB.out.x2 3
    have f4 := cell_blk HB.out.x2 4
    have f5 := cell_blk HB.out.x2 5
    have f6 := cell_blk HB.out.x2 6
    have f7 := cell_blk HB.out.x2 7
    have f8 := cell_blk HB.out.x2 8
    have f9 := cell_blk HB.out.x2 9
    have f10 := cell_blk HB.out.x2 10
    go_wp2_with fail
    (with_reducible refine (HRC.out _ HB.out.bw).mono ?_)
    rintro e wz ⟨rfl, q⟩
    have HB := Lib.hid (HB.out.keep q)
    clear q HRC e0 e1 e2 e3 f0 f1 f2 f3 f4 f5 f6 f7 f8 f9 f10
    have e0 := cell_blk HB.out.x1 0
    have e1 := cell_blk HB.out.x1 1
    have e2 := cell_blk HB.out.x1 2
    have e3 := cell_blk HB.out.x1 3
    have f0 := cell_blk HB.out.x2 0
    have f1 := cell_blk HB.out.x2 1
    have f2 := cell_blk HB.out.x2 2
    have f3 := cell_blk HB.out.x2 3
    have f4 := cell_blk HB.out.x2 4
    have f5 := cell_blk HB.out.x2 5
    have f6 := cell_blk HB.out.x2 6
    have f7 := cell_blk HB.out.x2 7
    have f8 := cell_blk HB.out.x2 8
    have f9 := cell_blk HB.out.x2 9
    have f10 := cell_blk HB.out.x2 10
    go_upto_region 7 with fail
    refine wp_region_held_drew (S := (fun W => W.cell? ⟨b2, 0, none⟩ = some (.string g.wb) ∧ W.cell? ⟨b2, 1, none⟩ = some (.slice g.an g.nl g.nc) ∧ W.cell? ⟨b2, 2, none⟩ = some (.slice g.am g.ml g.mc) ∧ W.cell? ⟨b2, 3, none⟩ = some (.int .i64 g.lo) ∧ W.cell? ⟨b2, 4, none⟩ = some (.int .i64 g.hi) ∧ W.cell? ⟨b2, 5, none⟩ = some (.bool g.hl) ∧ W.cell? ⟨b2, 6, none⟩ = some (.bool g.hh) ∧ W.cell? ⟨b2, 7, none⟩ = some (.int .u8 g.z.p.op) ∧ W.cell? ⟨b2, 8, none⟩ = some (.string g.z.p.nm) ∧ W.cell? ⟨b2, 9, none⟩ = some (.slice g.z.an g.z.nn g.z.nc) ∧ W.cell? ⟨b2, 10, none⟩ = some (.slice g.z.aa g.z.p.k g.z.ac) ∧ Hid (Bz w W b1 b2 #[.int .u8 p.op, .string p.nm, .slice an nn nc, .slice aa p.k ac] #[.string g.wb, .slice g.an g.nl g.nc, .slice g.am g.ml g.mc, .int .i64 g.lo, .int .i64 g.hi, .bool g.hl, .bool g.hh, .int .u8 g.z.p.op, .string g.z.p.nm, .slice g.z.an g.z.nn g.z.nc, .slice g.z.aa g.z.p.k g.z.ac]))) (by kernel_rfl) ?_ (fun hHeld => ?_)
    · exact HSS.out _ (HB.out.keep (Below.refl _ _).drew)
    refine wpAnyH_take (i := 0) (oi := _) (v := ?_) rfl (by kernel_rfl) (by kernel_rfl) (by kernel_rfl) (fun _ _ _ h => h) (Or.inl ⟨by kernel_rfl, ?_⟩) (by assumption) ?_
    rotate_left 1
    focus (intro wq hSw; (try dsimp only at hSw); obtain ⟨s0, s1, s2, s3, s4, s5, s6, s7, s8, s9, s10, s11⟩ := hSw; go_simp; (try with_reducible rfl); done)
    try simp only [List.getElem_toArray, List.getElem_cons_zero, List.getElem_cons_succ, Act.put, List.setIfInBounds_toArray, List.set_cons_zero, List.set_cons_succ]
    refine wpAnyH_take (i := 1) (oi := _) (v := ?_) rfl (by kernel_rfl) (by kernel_rfl) (by kernel_rfl) (fun _ _ _ h => h) (Or.inl ⟨by kernel_rfl, ?_⟩) (by assumption) ?_
    rotate_left 1
    focus (intro wq hSw; (try dsimp only at hSw); obtain ⟨s0, s1, s2, s3, s4, s5, s6, s7, s8, s9, s10, s11⟩ := hSw; go_simp; (try with_reducible rfl); done)
    try simp only [List.getElem_toArray, List.getElem_cons_zero, List.getElem_cons_succ, Act.put, List.setIfInBounds_toArray, List.set_cons_zero, List.set_cons_succ]
    refine wpAnyH_take (i := 2) (oi := _) (v := ?_) rfl (by kernel_rfl) (by kernel_rfl) (by kernel_rfl) (fun _ _ _ h => h) (Or.inl ⟨by kernel_rfl, ?_⟩) (by assumption) ?_
    rotate_left 1
    focus (intro wq hSw; (try dsimp only at hSw); obtain ⟨s0, s1, s2, s3, s4, s5, s6, s7, s8, s9, s10, s11⟩ := hSw; go_simp; (try with_reducible rfl); done)
    try simp only [List.getElem_toArray, List.getElem_cons_zero, List.getElem_cons_succ, Act.put, List.setIfInBounds_toArray, List.set_cons_zero, List.set_cons_succ]
    refine wpAnyH_take (i := 3) (oi := _) (v := ?_) rfl (by kernel_rfl) (by kernel_rfl) (by kernel_rfl) (fun _ _ _ h => h) (Or.inl ⟨by kernel_rfl, ?_⟩) (by assumption) ?_
    rotate_left 1
    focus (intro wq hSw; (try dsimp only at hSw); obtain ⟨s0, s1, s2, s3, s4, s5, s6, s7, s8, s9, s10, s11⟩ := hSw; go_simp; (try with_reducible rfl); done)
    try simp only [List.getElem_toArray, List.getElem_cons_zero, List.getElem_cons_succ, Act.put, List.setIfInBounds_toArray, List.set_cons_zero, List.set_cons_succ]
    refine wpAnyH_take (i := 4) (oi := _) (v := ?_) rfl (by kernel_rfl) (by kernel_rfl) (by kernel_rfl) (fun _ _ _ h => h) (Or.inl ⟨by kernel_rfl, ?_⟩) (by assumption) ?_
    rotate_left 1
    focus (intro wq hSw; (try dsimp only at hSw); obtain ⟨s0, s1, s2, s3, s4, s5, s6, s7, s8, s9, s10, s11⟩ := hSw; go_simp; (try with_reducible rfl); done)
    try simp only [List.getElem_toArray, List.getElem_cons_zero, List.getElem_cons_succ, Act.put, List.setIfInBounds_toArray, List.set_cons_zero, List.set_cons_succ]
    refine wpAnyH_take (i := 5) (oi := _) (v := ?_) rfl (by kernel_rfl) (by kernel_rfl) (by kernel_rfl) (fun _ _ _ h => h) (Or.inl ⟨by kernel_rfl, ?_⟩) (by assumption) ?_
    rotate_left 1
    focus (intro wq hSw; (try dsimp only at hSw); obtain ⟨s0, s1, s2, s3, s4, s5, s6, s7, s8, s9, s10, s11⟩ := hSw; go_simp; (try with_reducible rfl); done)
    try simp only [List.getElem_toArray, List.getElem_cons_zero, List.getElem_cons_succ, Act.put, List.setIfInBounds_toArray, List.set_cons_zero, List.set_cons_succ]
    refine wpAnyH_take (i := 6) (oi := _) (v := ?_) rfl (by kernel_rfl) (by kernel_rfl) (by kernel_rfl) (fun _ _ _ h => h) (Or.inl ⟨by kernel_rfl, ?_⟩) (by assumption) ?_
    rotate_left 1
    focus (intro wq hSw; (try dsimp only at hSw); obtain ⟨s0, s1, s2, s3, s4, s5, s6, s7, s8, s9, s10, s11⟩ := hSw; go_simp; (try with_reducible rfl); done)
    try simp only [List.getElem_toArray, List.getElem_cons_zero, List.getElem_cons_succ, Act.put, List.setIfInBounds_toArray, List.set_cons_zero, List.set_cons_succ]
    refine wpAnyH_take (i := 7) (oi := _) (v := ?_) rfl (by kernel_rfl) (by kernel_rfl) (by kernel_rfl) (fun _ _ _ h => h) (Or.inl ⟨by kernel_rfl, ?_⟩) (by assumption) ?_
    rotate_left 1
    focus (intro wq hSw; (try dsimp only at hSw); obtain ⟨s0, s1, s2, s3, s4, s5, s6, s7, s8, s9, s10, s11⟩ := hSw; go_simp; (try with_reducible rfl); done)
    try simp only [List.getElem_toArray, List.getElem_cons_zero, List.getElem_cons_succ, Act.put, List.setIfInBounds_toArray, List.set_cons_zero, List.set_cons_succ]
    refine wpAnyH_take (i := 8) (oi := _) (v := ?_) rfl (by kernel_rfl) (by kernel_rfl) (by kernel_rfl) (fun _ _ _ h => h) (Or.inl ⟨by kernel_rfl, ?_⟩) (by assumption) ?_
    rotate_left 1
    focus (intro wq hSw; (try dsimp only at hSw); obtain ⟨s0, s1, s2, s3, s4, s5, s6, s7, s8, s9, s10, s11⟩ := hSw; go_simp; (try with_reducible rfl); done)
    try simp only [List.getElem_toArray, List.getElem_cons_zero, List.getElem_cons_succ, Act.put, List.setIfInBounds_toArray, List.set_cons_zero, List.set_cons_succ]
    refine wpAnyH_take (i := 9) (oi := _) (v := ?_) rfl (by kernel_rfl) (by kernel_rfl) (by kernel_rfl) (fun _ _ _ h => h) (Or.inl ⟨by kernel_rfl, ?_⟩) (by assumption) ?_
    rotate_left 1
    focus (intro wq hSw; (try dsimp only at hSw); obtain ⟨s0, s1, s2, s3, s4, s5, s6, s7, s8, s9, s10, s11⟩ := hSw; go_simp; (try with_reducible rfl); done)
    try simp only [List.getElem_toArray, List.getElem_cons_zero, List.getElem_cons_succ, Act.put, List.setIfInBounds_toArray, List.set_cons_zero, List.set_cons_succ]
    refine wpAnyH_take (i := 10) (oi := _) (v := ?_) rfl (by kernel_rfl) (by kernel_rfl) (by kernel_rfl) (fun _ _ _ h => h) (Or.inl ⟨by kernel_rfl, ?_⟩) (by assumption) ?_
    rotate_left 1
    focus (intro wq hSw; (try dsimp only at hSw); obtain ⟨s0, s1, s2, s3, s4, s5, s6, s7, s8, s9, s10, s11⟩ := hSw; go_simp; (try with_reducible rfl); done)
    try simp only [List.getElem_toArray, List.getElem_cons_zero, List.getElem_cons_succ, Act.put, List.setIfInBounds_toArray, List.set_cons_zero, List.set_cons_succ]
    refine wpAnyH_take (i := 11) (oi := _) (v := ?_) rfl (by kernel_rfl) (by kernel_rfl) (by kernel_rfl) (fun _ _ _ h => h) (Or.inl ⟨by kernel_rfl, ?_⟩) (by assumption) ?_
    rotate_left 1
    focus (intro wq hSw; (try dsimp only at hSw); obtain ⟨s0, s1, s2, s3, s4, s5, s6, s7, s8, s9, s10, s11⟩ := hSw; go_simp; (try with_reducible rfl); done)
    try simp only [List.getElem_toArray, List.getElem_cons_zero, List.getElem_cons_succ, Act.put, List.setIfInBounds_toArray, List.set_cons_zero, List.set_cons_succ]
    refine wpAnyH_take (i := 12) (oi := _) (v := ?_) rfl (by kernel_rfl) (by kernel_rfl) (by kernel_rfl) (fun _ _ _ h => h) (Or.inl ⟨by kernel_rfl, ?_⟩) (by assumption) ?_
    rotate_left 1
    focus (intro wq hSw; (try dsimp only at hSw); obtain ⟨s0, s1, s2, s3, s4, s5, s6, s7, s8, s9, s10, s11⟩ := hSw; go_simp; (try with_reducible rfl); done)
    try simp only [List.getElem_toArray, List.getElem_cons_zero, List.getElem_cons_succ, Act.put, List.setIfInBounds_toArray, List.set_cons_zero, List.set_cons_succ]
    refine wpAnyH_take (i := 13) (oi := _) (v := ?_) rfl (by kernel_rfl) (by kernel_rfl) (by kernel_rfl) (fun _ _ _ h => h) (Or.inl ⟨by kernel_rfl, ?_⟩) (by assumption) ?_
    rotate_left 1
    focus (intro wq hSw; (try dsimp only at hSw); obtain ⟨s0, s1, s2, s3, s4, s5, s6, s7, s8, s9, s10, s11⟩ := hSw; go_simp; (try with_reducible rfl); done)
    try simp only [List.getElem_toArray, List.getElem_cons_zero, List.getElem_cons_succ, Act.put, List.setIfInBounds_toArray, List.set_cons_zero, List.set_cons_succ]
    refine wpAnyH_take (i := 14) (oi := _) (v := ?_) rfl (by kernel_rfl) (by kernel_rfl) (by kernel_rfl) (fun _ _ _ h => h) (Or.inl ⟨by kernel_rfl, ?_⟩) (by assumption) ?_
    rotate_left 1
    focus (intro wq hSw; (try dsimp only at hSw); obtain ⟨s0, s1, s2, s3, s4, s5, s6, s7, s8, s9, s10, s11⟩ := hSw; go_simp; (try with_reducible rfl); done)
    try simp only [List.getElem_toArray, List.getElem_cons_zero, List.getElem_cons_succ, Act.put, List.setIfInBounds_toArray, List.set_cons_zero, List.set_cons_succ]
    refine wpAnyH_take (i := 15) (oi := _) (v := ?_) rfl (by kernel_rfl) (by kernel_rfl) (by kernel_rfl) (fun _ _ _ h => h) (Or.inl ⟨by kernel_rfl, ?_⟩) (by assumption) ?_
    rotate_left 1
    focus (intro wq hSw; (try dsimp only at hSw); obtain ⟨s0, s1, s2, s3, s4, s5, s6, s7, s8, s9, s10, s11⟩ := hSw; go_simp; (try with_reducible rfl); done)
    try simp only [List.getElem_toArray, List.getElem_cons_zero, List.getElem_cons_succ, Act.put, List.setIfInBounds_toArray, List.set_cons_zero, List.set_cons_succ]
    refine wpAnyH_take (i := 16) (oi := _) (v := ?_) rfl (by kernel_rfl) (by kernel_rfl) (by kernel_rfl) (fun _ _ _ h => h) (Or.inl ⟨by kernel_rfl, ?_⟩) (by assumption) ?_
    rotate_left 1
    focus (intro wq hSw; (try dsimp only at hSw); obtain ⟨s0, s1, s2, s3, s4, s5, s6, s7, s8, s9, s10, s11⟩ := hSw; go_simp; (try with_reducible rfl); done)
    try simp only [List.getElem_toArray, List.getElem_cons_zero, List.getElem_cons_succ, Act.put, List.setIfInBounds_toArray, List.set_cons_zero, List.set_cons_succ]
    refine wpAnyH_take (i := 17) (oi := _) (v := ?_) rfl (by kernel_rfl) (by kernel_rfl) (by kernel_rfl) (fun _ _ _ h => h) (Or.inl ⟨by kernel_rfl, ?_⟩) (by assumption) ?_
    rotate_left 1
    focus (intro wq hSw; (try dsimp only at hSw); obtain ⟨s0, s1, s2, s3, s4, s5, s6, s7, s8, s9, s10, s11⟩ := hSw; go_simp; (try with_reducible rfl); done)
    try simp only [List.getElem_toArray, List.getElem_cons_zero, List.getElem_cons_succ, Act.put, List.setIfInBounds_toArray, List.set_cons_zero, List.set_cons_succ]
    refine wpAnyH_take (i := 18) (oi := _) (v := ?_) rfl (by kernel_rfl) (by kernel_rfl) (by kernel_rfl) (fun _ _ _ h => h) (Or.inl ⟨by kernel_rfl, ?_⟩) (by assumption) ?_
    rotate_left 1
    focus (intro wq hSw; (try dsimp only at hSw); obtain ⟨s0, s1, s2, s3, s4, s5, s6, s7, s8, s9, s10, s11⟩ := hSw; go_simp; (try with_reducible rfl); done)
    try simp only [List.getElem_toArray, List.getElem_cons_zero, List.getElem_cons_succ, Act.put, List.setIfInBounds_toArray, List.set_cons_zero, List.set_cons_succ]
    refine wpAnyH_take (i := 19) (oi := _) (v := ?_) rfl (by kernel_rfl) (by kernel_rfl) (by kernel_rfl) (fun _ _ _ h => h) (Or.inl ⟨by kernel_rfl, ?_⟩) (by assumption) ?_
    rotate_left 1
    focus (intro wq hSw; (try dsimp only at hSw); obtain ⟨s0, s1, s2, s3, s4, s5, s6, s7, s8, s9, s10, s11⟩ := hSw; go_simp; (try with_reducible rfl); done)
    try simp only [List.getElem_toArray, List.getElem_cons_zero, List.getElem_cons_succ, Act.put, List.setIfInBounds_toArray, List.set_cons_zero, List.set_cons_succ]
    refine wpAnyH_take (i := 21) (oi := _) (v := ?_) rfl (by kernel_rfl) (by kernel_rfl) (by kernel_rfl) (fun _ _ _ h => h) (Or.inl ⟨by kernel_rfl, ?_⟩) (by assumption) ?_
    rotate_left 1
    focus (intro wq hSw; (try dsimp only at hSw); obtain ⟨s0, s1, s2, s3, s4, s5, s6, s7, s8, s9, s10, s11⟩ := hSw; go_simp; (try with_reducible rfl); done)
    try simp only [List.getElem_toArray, List.getElem_cons_zero, List.getElem_cons_succ, Act.put, List.setIfInBounds_toArray, List.set_cons_zero, List.set_cons_succ]
    refine wpAnyH_ready (rs := [20]) (by kernel_rfl) (by simp) ?_
    refine AllReadyH.cons (o := _) rfl (fun K hK => ?_) AllReadyH.nil
    rw [if_pos (by kernel_rfl)]
    go_simp
    (go_at_call 11; (with_reducible refine (HPR.out _ hHeld.2.2.2.2.2.2.2.2.2.2.2.out.bw).mono ?_); rintro e wa ⟨rfl, q⟩)
    first | refine hK.out _ _ ?_ (fun hHeld => ?_) | (go_wp2_with fail; refine hK.out _ _ ?_ (fun hHeld => ?_))
    · exact HSS.out _ (hHeld.2.2.2.2.2.2.2.2.2.2.2.out.keep q)
    clear hK K
    try simp only [List.getElem_toArray, List.getElem_cons_zero, List.getElem_cons_succ, Act.put, List.setIfInBounds_toArray, List.set_cons_zero, List.set_cons_succ]
    refine wpAnyH_ready (rs := [22]) (by kernel_rfl) (by simp) ?_
    refine AllReadyH.cons (o := _) rfl (fun K hK => ?_) AllReadyH.nil
    rw [if_pos (by kernel_rfl)]
    go_simp
    (go_at_call 12; (with_reducible refine (HRR.out _ hHeld.2.2.2.2.2.2.2.2.2.2.2.out.bw).mono ?_); rintro e wb ⟨rfl, q⟩)
    first | refine hK.out _ _ ?_ (fun hHeld => ?_) | (go_wp2_with fail; refine hK.out _ _ ?_ (fun hHeld => ?_))
    · exact HSS.out _ (hHeld.2.2.2.2.2.2.2.2.2.2.2.out.keep q)
    clear hK K
    try simp only [List.getElem_toArray, List.getElem_cons_zero, List.getElem_cons_succ, Act.put, List.setIfInBounds_toArray, List.set_cons_zero, List.set_cons_succ]
    refine wpAnyH_take (i := 23) (oi := _) (v := ?_) rfl (by kernel_rfl) (by kernel_rfl) (by kernel_rfl) (fun _ _ _ h => h) (Or.inl ⟨by kernel_rfl, ?_⟩) (by assumption) ?_
    rotate_left 1
    focus (intro wq hSw; (try dsimp only at hSw); obtain ⟨s0, s1, s2, s3, s4, s5, s6, s7, s8, s9, s10, s11⟩ := hSw; go_simp; (try with_reducible rfl); done)
    try simp only [List.getElem_toArray, List.getElem_cons_zero, List.getElem_cons_succ, Act.put, List.setIfInBounds_toArray, List.set_cons_zero, List.set_cons_succ]
    refine wpAnyH_take (i := 24) (oi := _) (v := ?_) rfl (by kernel_rfl) (by kernel_rfl) (by kernel_rfl) (fun _ _ _ h => h) (Or.inl ⟨by kernel_rfl, ?_⟩) (by assumption) ?_
    rotate_left 1
    focus (intro wq hSw; (try dsimp only at hSw); obtain ⟨s0, s1, s2, s3, s4, s5, s6, s7, s8, s9, s10, s11⟩ := hSw; go_simp; (try with_reducible rfl); done)
    try simp only [List.getElem_toArray, List.getElem_cons_zero, List.getElem_cons_succ, Act.put, List.setIfInBounds_toArray, List.set_cons_zero, List.set_cons_succ]
    refine wpAnyH_take (i := 25) (oi := _) (v := ?_) rfl (by kernel_rfl) (by kernel_rfl) (by kernel_rfl) (fun _ _ _ h => h) (Or.inl ⟨by kernel_rfl, ?_⟩) (by assumption) ?_
    rotate_left 1
    focus (intro wq hSw; (try dsimp only at hSw); obtain ⟨s0, s1, s2, s3, s4, s5, s6, s7, s8, s9, s10, s11⟩ := hSw; go_simp; (try with_reducible rfl); done)
    try simp only [List.getElem_toArray, List.getElem_cons_zero, List.getElem_cons_succ, Act.put, List.setIfInBounds_toArray, List.set_cons_zero, List.set_cons_succ]
    refine wpAnyH_ready (rs := [26]) (by kernel_rfl) (by simp) ?_
    refine AllReadyH.cons (o := _) rfl (fun K hK => ?_) AllReadyH.nil
    rw [if_pos (by kernel_rfl)]
    go_simp
    (go_at_call 6; (with_reducible refine (HAW.out _ hHeld.2.2.2.2.2.2.2.2.2.2.2.out.bw).mono ?_); rintro e wc ⟨rfl, q⟩)
    first | refine hK.out _ _ ?_ (fun hHeld => ?_) | (go_wp2_with fail; refine hK.out _ _ ?_ (fun hHeld => ?_))
    · exact HSS.out _ (hHeld.2.2.2.2.2.2.2.2.2.2.2.out.keep q)
    clear hK K
    try simp only [List.getElem_toArray, List.getElem_cons_zero, List.getElem_cons_succ, Act.put, List.setIfInBounds_toArray, List.set_cons_zero, List.set_cons_succ]
    refine wpAnyH_take (i := 27) (oi := _) (v := ?_) rfl (by kernel_rfl) (by kernel_rfl) (by kernel_rfl) (fun _ _ _ h => h) (Or.inl ⟨by kernel_rfl, ?_⟩) (by assumption) ?_
    rotate_left 1
    focus (intro wq hSw; (try dsimp only at hSw); obtain ⟨s0, s1, s2, s3, s4, s5, s6, s7, s8, s9, s10, s11⟩ := hSw; go_simp; (try with_reducible rfl); done)
    try simp only [List.getElem_toArray, List.getElem_cons_zero, List.getElem_cons_succ, Act.put, List.setIfInBounds_toArray, List.set_cons_zero, List.set_cons_succ]
    refine wpAnyH_take (i := 28) (oi := _) (v := ?_) rfl (by kernel_rfl) (by kernel_rfl) (by kernel_rfl) (fun _ _ _ h => h) (Or.inl ⟨by kernel_rfl, ?_⟩) (by assumption) ?_
    rotate_left 1
    focus (intro wq hSw; (try dsimp only at hSw); obtain ⟨s0, s1, s2, s3, s4, s5, s6, s7, s8, s9, s10, s11⟩ := hSw; go_simp; (try with_reducible rfl); done)
    try simp only [List.getElem_toArray, List.getElem_cons_zero, List.getElem_cons_succ, Act.put, List.setIfInBounds_toArray, List.set_cons_zero, List.set_cons_succ]
    refine wpAnyH_done (by kernel_rfl) ?_ _
    have HTW := Lib.hid hHeld.2.2.2.2.2.2.2.2.2.2.2.out.bw
    go_wp2_with fail
    go_returns
    exact ⟨by simp, HTW.out⟩
end Go.Proofs.YtimjendkpjojoaaDoor
