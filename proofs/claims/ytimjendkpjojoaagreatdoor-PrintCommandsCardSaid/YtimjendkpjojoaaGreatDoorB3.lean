/- PrintCommands' walk. -/
import Derived.Test.YtimjendkpjojoaaGreatDoorB2
namespace Go.Proofs.YtimjendkpjojoaaGreatDoor
set_option linter.unusedVariables false
set_option linter.unusedSimpArgs false
open Go.ChangeShapes Go.WideShapes Go.ChangeAt Go.RowKit

set_option maxRecDepth 20000 in
set_option maxHeartbeats 8000000 in
theorem printCommands_walk (D : Nat) (cm : Lx.Cm) (g : Cg) (D' : Nat) (cn : Lx.Cm) (h : Cg) (sw : ByteArray) (w : World) (hT : Tz w) (hg : CG w D cm g) (hcb : CB cm) (hh : CG w D' cn h) (hcc : CB cn) :
    Calls Tryz.prog 4 #[.agg #[.string g.wb, .slice g.an g.nl g.nc, .slice g.am g.ml g.mc, .int .i64 g.lo, .int .i64 g.hi, .bool g.hl, .bool g.hh, .int .u8 g.z.p.op, .string g.z.p.nm, .slice g.z.an g.z.nn g.z.nc, .slice g.z.aa g.z.p.k g.z.ac], .agg #[.string h.wb, .slice h.an h.nl h.nc, .slice h.am h.ml h.mc, .int .i64 h.lo, .int .i64 h.hi, .bool h.hl, .bool h.hh, .int .u8 h.z.p.op, .string h.z.p.nm, .slice h.z.an h.z.nn h.z.nc, .slice h.z.aa h.z.p.k h.z.ac], .string sw] w fun e w' => e = .returned (.bool true) ∧ Below w.heap.size w w' := by
  have HAW := Lib.hid (fun W (k : Below w.heap.size w W) => awake_any W (hT.tp.keep k))
  have HCX := Lib.hid (fun W (k : Below w.heap.size w W) => count_any D (hV g.z) (tour cm.ex) W (hg.ex.keep k))
  have HCY := Lib.hid (fun W (k : Below w.heap.size w W) => count_any D' (hV h.z) (tour cn.ex) W (hh.ex.keep k))
  unfold hV pv at HCX HCY
  obtain ⟨c, hc⟩ : ∃ z, (run cntW 0 (wl (tour cm.ex 1))).1 = z := ⟨_, rfl⟩
  obtain ⟨d, hd⟩ : ∃ z, (run cntW 0 (wl (tour cn.ex 1))).1 = z := ⟨_, rfl⟩
  rw [hc] at HCX
  rw [hd] at HCY
  obtain ⟨r, hr⟩ : ∃ r : Bool, r = true ↔ RightC cm := by classical exact ⟨decide _, decide_eq_true_iff⟩
  obtain ⟨s, hs⟩ : ∃ s : Bool, s = true ↔ RightC cn := by classical exact ⟨decide _, decide_eq_true_iff⟩
  obtain ⟨t, ht⟩ : ∃ t : Bool, t = true ↔ cm = cn := by classical exact ⟨decide _, decide_eq_true_iff⟩
  have HPX := Lib.hid (fun W (k : Below w.heap.size w W) => pcmd_any W D cm g (hT.tp.keep k) (hg.keep k) hcb.b2 hcb.b3 hcb.b4 r hr)
  have HPY := Lib.hid (fun W (k : Below w.heap.size w W) => pcmd_any W D' cn h (hT.tp.keep k) (hh.keep k) hcc.b2 hcc.b3 hcc.b4 s hs)
  have HRX := Lib.hid (fun W (k : Below w.heap.size w W) => pright_any W D cm g (hT.tp.needs.keep k) (hg.keep k) hcb.b2 r hr)
  have HSY := Lib.hid (fun W (k : Below w.heap.size w W) => csame_flat W D D' cm cn g h (hg.keep k) (hh.keep k) t ht)
  have HSZ := Lib.hid (fun W (k : Below w.heap.size w W) (gz : Cg) (hz : CG W 41 cm gz) => csame_flat W D 41 cm cm g gz (hg.keep k) hz true ⟨fun _ => rfl, fun _ => rfl⟩)
  have HCM := Lib.hid (fun W ao n c l (k : Below w.heap.size w W) (h1 : TkAt W ao n c l) (h2 : Lx.TkB l) => cmd_cg W ao n c l h1 h2 (hT.tp.needs.keep k) (hT.tw.keep k))
  have HL1 : Hid (r = true → LnC cm) := Lib.hid (fun e => lnc_of hg (hr.1 e) hcb)
  have HL2 : Hid (s = true → LnC cn) := Lib.hid (fun e => lnc_of hh (hs.1 e) hcc)
  obtain ⟨SX, hSX⟩ : ∃ z : ByteArray, ⟨(Lx.lineC cm ((Lx.shape cm.word).getD [])).toArray⟩ = z := ⟨_, rfl⟩
  obtain ⟨SY, hSY⟩ : ∃ z : ByteArray, ⟨(Lx.lineC cn ((Lx.shape cn.word).getD [])).toArray⟩ = z := ⟨_, rfl⟩
  have HEQ2 : Hid (r = true → s = true → (SX.toList == SY.toList) = t) := Lib.hid (fun e1 e2 => by
    rw [Bool.eq_iff_iff, beq_iff_eq, ht, ← hSX, ← hSY, ByteArray.toList_eq, ByteArray.toList_eq]
    exact ⟨fun e => lnc_inj (HL1.out e1) (HL2.out e2) e, fun e => by rw [e]⟩)
  have HWD : Hid (∀ W (k : Below w.heap.size w W), r = true → Calls Tryz.prog 9 #[.string SX] W fun e w' => ∃ ao c, e = .returned (.tuple #[.slice ao (Lx.toldC cm ((Lx.shape cm.word).getD [])).length c, .int .i64 (-1)]) ∧ Hid (Below W.heap.size W w') ∧ Hid (TkAt w' ao (Lx.toldC cm ((Lx.shape cm.word).getD [])).length c (Lx.toldC cm ((Lx.shape cm.word).getD [])))) := Lib.hid (fun W k e => by
    rw [← hSX]
    exact wread_any ⟨(Lx.lineC cm ((Lx.shape cm.word).getD [])).toArray⟩ W (hT.tx.keep k) (by rw [len_toArray]; have := (HL1.out e).len; omega) _ (HL1.out e).rd)
  -- what is read of the line
  obtain ⟨R, hR⟩ : ∃ R, Lx.words readOf piOf sw.data.toList 0 [] = R := ⟨_, rfl⟩
  have hLN : LnT R.1 := by rw [← hR]; exact words_lnt _ _ (Nat.le_refl _)
  obtain ⟨lw, pa⟩ := R
  obtain ⟨L, hL⟩ : ∃ L, lw.length = L := ⟨_, rfl⟩
  have HWS0 : Hid (sw.size ≤ 300 → ∀ W (k : Below w.heap.size w W), Calls Tryz.prog 9 #[.string sw] W fun e w' => ∃ ao c, e = .returned (.tuple #[.slice ao L c, .int .i64 pa]) ∧ Hid (Below W.heap.size W w') ∧ Hid (TkAt w' ao L c lw)) := Lib.hid (fun e W k => by
    have := wread_any sw W (hT.tx.keep k) (by omega) _ hR
    rw [hL] at this
    exact this)
  have HLN := Lib.hid hLN
  obtain ⟨cz, hE1⟩ : ∃ z, (Lx.cmE lw).1 = z := ⟨_, rfl⟩
  obtain ⟨p0, hE2⟩ : ∃ z, (Lx.cmE lw).2.1 = z := ⟨_, rfl⟩
  obtain ⟨cd, hE3⟩ : ∃ z, (Lx.cmE lw).2.2 = z := ⟨_, rfl⟩
  have HE1 := Lib.hid hE1
  have HE2 := Lib.hid hE2
  have HE3 := Lib.hid hE3
  have HRT : Hid (cd = 0 → RightC cz ∧ CB cz) := Lib.hid (fun e => by
    have := cm_right hLN.nm hLN.tb (hE3.trans e)
    rw [hE1] at this; exact this)
  obtain ⟨SZ, hSZ⟩ : ∃ z : ByteArray, ⟨(Lx.lineC cz ((Lx.shape cz.word).getD [])).toArray⟩ = z := ⟨_, rfl⟩
  obtain ⟨lz, hlz⟩ : ∃ z, Lx.toldC cz ((Lx.shape cz.word).getD []) = z := ⟨_, rfl⟩
  obtain ⟨LZ, hLZ⟩ : ∃ z, lz.length = z := ⟨_, rfl⟩
  have HPC : Hid (∀ W (gx : Cg), Below w.heap.size w W → CG W 41 cz gx → RightC cz ∧ CB cz → Calls Tryz.prog 12 #[.agg #[.string gx.wb, .slice gx.an gx.nl gx.nc, .slice gx.am gx.ml gx.mc, .int .i64 gx.lo, .int .i64 gx.hi, .bool gx.hl, .bool gx.hh, .int .u8 gx.z.p.op, .string gx.z.p.nm, .slice gx.z.an gx.z.nn gx.z.nc, .slice gx.z.aa gx.z.p.k gx.z.ac]] W fun e w' => e = .returned (.tuple #[.string SZ, .int .i64 0]) ∧ Below W.heap.size W w') := Lib.hid (fun W gx k h1 h2 => by
    have := pcmd_any W 41 cz gx (hT.tp.keep k) h1 h2.2.b2 h2.2.b3 h2.2.b4 true ⟨fun _ => h2.1, fun _ => rfl⟩
    rw [hSZ] at this
    exact this)
  have HWZ : Hid (∀ W {gx : Cg}, Below w.heap.size w W → CG W 41 cz gx → RightC cz ∧ CB cz → Calls Tryz.prog 9 #[.string SZ] W fun e w' => ∃ ao c, e = .returned (.tuple #[.slice ao LZ c, .int .i64 (-1)]) ∧ Hid (Below W.heap.size W w') ∧ Hid (TkAt w' ao LZ c lz)) := Lib.hid (fun W gx k h1 h2 => by
    have q := lnc_of h1 h2.1 h2.2
    have := wread_any SZ W (hT.tx.keep k) (by rw [← hSZ, len_toArray]; have := q.len; omega) (lz, -1) (by rw [← hSZ, ← hlz]; exact q.rd)
    dsimp only at this
    rw [hLZ] at this
    exact this)
  have HCZ : Hid (∀ W ao c {gx : Cg}, Below w.heap.size w W → TkAt W ao LZ c lz → CG W 41 cz gx → RightC cz ∧ CB cz → Calls Tryz.prog 14 #[.slice ao LZ c] W fun e w' => ∃ gy : Cg, e = .returned (.tuple #[.agg #[.string gy.wb, .slice gy.an gy.nl gy.nc, .slice gy.am gy.ml gy.mc, .int .i64 gy.lo, .int .i64 gy.hi, .bool gy.hl, .bool gy.hh, .int .u8 gy.z.p.op, .string gy.z.p.nm, .slice gy.z.an gy.z.nn gy.z.nc, .slice gy.z.aa gy.z.p.k gy.z.ac], .int .i64 (-1), .int .i64 0]) ∧ Hid (Below W.heap.size W w') ∧ Hid (CG w' 41 cz gy)) := Lib.hid (fun W ao c gx k h0 h1 h2 => by
    have q := lnc_of h1 h2.1 h2.2
    have := cmd_cg W ao LZ c lz h0 (by rw [← hlz]; exact q.tkb) (hT.tp.needs.keep k) (hT.tw.keep k)
    have e : Lx.cmE lz = (cz, -1, 0) := by rw [← hlz]; exact q.all
    rw [e] at this
    exact this)
  rw [hSX] at HPX
  rw [hSY] at HPY
  obtain ⟨TX, hTX⟩ : ∃ z : ByteArray, (if r = true then SX else ⟨#[]⟩) = z := ⟨_, rfl⟩
  obtain ⟨EX, hEX⟩ : ∃ z : Int, (if r = true then 0 else 110) = z := ⟨_, rfl⟩
  obtain ⟨TY, hTY⟩ : ∃ z : ByteArray, (if s = true then SY else ⟨#[]⟩) = z := ⟨_, rfl⟩
  obtain ⟨EY, hEY⟩ : ∃ z : Int, (if s = true then 0 else 110) = z := ⟨_, rfl⟩
  rw [hTX, hEX] at HPX
  rw [hTY, hEY] at HPY
  have HTX := Lib.hid hTX
  have HEX1 := Lib.hid hEX
  have HTY := Lib.hid hTY
  have HEY1 := Lib.hid hEY
  clear hTX hEX hTY hEY
  have HCB1 := Lib.hid (fun e => (HL1.out e).tkb)
  have HCB2 := Lib.hid (fun e => (HL1.out e).all)
  clear hSX hSY hc hd hr hs ht hT hg hh hcb hcc hR hLN hL hE1 hE2 hE3 hSZ hlz hLZ HL1 HL2
  obtain ⟨b1, hb1⟩ : ∃ z, w.heap.size = z := ⟨_, rfl⟩
  obtain ⟨w1, hw1⟩ : ∃ z, w.alloc (.cells #[.string g.wb, .slice g.an g.nl g.nc, .slice g.am g.ml g.mc, .int .i64 g.lo, .int .i64 g.hi, .bool g.hl, .bool g.hh, .int .u8 g.z.p.op, .string g.z.p.nm, .slice g.z.an g.z.nn g.z.nc, .slice g.z.aa g.z.p.k g.z.ac] 42) = z := ⟨_, rfl⟩
  have h1 : w1.heap[b1]? = some (.cells #[.string g.wb, .slice g.an g.nl g.nc, .slice g.am g.ml g.mc, .int .i64 g.lo, .int .i64 g.hi, .bool g.hl, .bool g.hh, .int .u8 g.z.p.op, .string g.z.p.nm, .slice g.z.an g.z.nn g.z.nc, .slice g.z.aa g.z.p.k g.z.ac] 42 (0, 0)) := by rw [← hw1, ← hb1, al_new]
  have q1 : Below w.heap.size w w1 := by rw [← hw1]; exact (Below.refl _ w).alloc (Nat.le_refl _) _
  obtain ⟨b2, hb2⟩ : ∃ z, w1.heap.size = z := ⟨_, rfl⟩
  obtain ⟨w2, hw2⟩ : ∃ z, w1.alloc (.cells #[.string h.wb, .slice h.an h.nl h.nc, .slice h.am h.ml h.mc, .int .i64 h.lo, .int .i64 h.hi, .bool h.hl, .bool h.hh, .int .u8 h.z.p.op, .string h.z.p.nm, .slice h.z.an h.z.nn h.z.nc, .slice h.z.aa h.z.p.k h.z.ac] 42) = z := ⟨_, rfl⟩
  have h2 : w2.heap[b2]? = some (.cells #[.string h.wb, .slice h.an h.nl h.nc, .slice h.am h.ml h.mc, .int .i64 h.lo, .int .i64 h.hi, .bool h.hl, .bool h.hh, .int .u8 h.z.p.op, .string h.z.p.nm, .slice h.z.an h.z.nn h.z.nc, .slice h.z.aa h.z.p.k h.z.ac] 42 (0, 0)) := by rw [← hw2, ← hb2, al_new]
  have q2 : Below w1.heap.size w1 w2 := by rw [← hw2]; exact (Below.refl _ w1).alloc (Nat.le_refl _) _
  have HB : Hid (By4 w w2 b1 b2 #[.string g.wb, .slice g.an g.nl g.nc, .slice g.am g.ml g.mc, .int .i64 g.lo, .int .i64 g.hi, .bool g.hl, .bool g.hh, .int .u8 g.z.p.op, .string g.z.p.nm, .slice g.z.an g.z.nn g.z.nc, .slice g.z.aa g.z.p.k g.z.ac] #[.string h.wb, .slice h.an h.nl h.nc, .slice h.am h.ml h.mc, .int .i64 h.lo, .int .i64 h.hi, .bool h.hl, .bool h.hh, .int .u8 h.z.p.op, .string h.z.p.nm, .slice h.z.an h.z.nn h.z.nc, .slice h.z.aa h.z.p.k h.z.ac]) := Lib.hid ⟨q1.trans (q2.mono q1.size), blk_below h1 q2, h2⟩
  clear q1 q2 h1 h2
  have e0 := cell_blk HB.out.x1 0
  have e1 := cell_blk HB.out.x1 1
  have e2 := cell_blk HB.out.x1 2
  have e3 := cell_blk HB.out.x1 3
  have e4 := cell_blk HB.out.x1 4
  have e5 := cell_blk HB.out.x1 5
  have e6 := cell_blk HB.out.x1 6
  have e7 := cell_blk HB.out.x1 7
  have e8 := cell_blk HB.out.x1 8
  have e9 := cell_blk HB.out.x1 9
  have e10 := cell_blk HB.out.x1 10
  have f0 := cell_blk HB.out.x2 0
  have f1 := cell_blk HB.out.x2 1
  have f2 := cell_blk HB.out.x2 2
  have f3 := cell_blk HB.out.x2 3
  have f4 := cell_blk HB.out.x2 4
  have f5 := cell_blk HB.out.x2 5
  have f6 := cell_blk HB.out.x2 6
  have f7 := cell_blk HB.out.x2 7
  have f8 := cell_blk HB.out.x2 8
  have f9 := cell_blk HB.out.x2 9
  have f10 := cell_blk HB.out.x2 10
  go_enter Tryz.func4, Tryz.ntmps4
  go_upto_region 1 with fail
  try rw [hw1]
  try rw [hb1]
  try rw [hw2]
  try rw [hb2]
  clear hw1 hb1 hw2 hb2
  go_wp2_with fail
  (with_reducible refine (HCX.out _ HB.out.bw).mono ?_)
  rintro e wz ⟨rfl, q⟩
  have HB := Lib.hid (HB.out.keep q)
  clear q
  clear e0 e1 e2 e3 e4 e5 e6 e7 e8 e9 e10 f0 f1 f2 f3 f4 f5 f6 f7 f8 f9 f10
  have e0 := cell_blk HB.out.x1 0
  have e1 := cell_blk HB.out.x1 1
  have e2 := cell_blk HB.out.x1 2
  have e3 := cell_blk HB.out.x1 3
  have e4 := cell_blk HB.out.x1 4
  have e5 := cell_blk HB.out.x1 5
  have e6 := cell_blk HB.out.x1 6
  have e7 := cell_blk HB.out.x1 7
  have e8 := cell_blk HB.out.x1 8
  have e9 := cell_blk HB.out.x1 9
  have e10 := cell_blk HB.out.x1 10
  have f0 := cell_blk HB.out.x2 0
  have f1 := cell_blk HB.out.x2 1
  have f2 := cell_blk HB.out.x2 2
  have f3 := cell_blk HB.out.x2 3
  have f4 := cell_blk HB.out.x2 4
  have f5 := cell_blk HB.out.x2 5
  have f6 := cell_blk HB.out.x2 6
  have f7 := cell_blk HB.out.x2 7
  have f8 := cell_blk HB.out.x2 8
  have f9 := cell_blk HB.out.x2 9
  have f10 := cell_blk HB.out.x2 10
  by_cases c1 : (3000 : Int) < c
  · skip
    have HXA := Lib.hid (HAW.out _ HB.out.bw)
    go_wp2_with fail
    (with_reducible refine HXA.out.mono ?_)
    rintro e wy ⟨rfl, q⟩
    go_wp2_with fail
    go_returns
    exact ⟨rfl, (HB.out.bw).trans (q.mono (HB.out.bw).size)⟩
  · have c2 : decide ((3000 : Int) < c) = false := by simpa using c1
    go_wp2_with fail
    (with_reducible refine (HCY.out _ HB.out.bw).mono ?_)
    rintro e wz ⟨rfl, q⟩
    have HB := Lib.hid (HB.out.keep q)
    clear q
    clear e0 e1 e2 e3 e4 e5 e6 e7 e8 e9 e10 f0 f1 f2 f3 f4 f5 f6 f7 f8 f9 f10
    have e0 := cell_blk HB.out.x1 0
    have e1 := cell_blk HB.out.x1 1
    have e2 := cell_blk HB.out.x1 2
    have e3 := cell_blk HB.out.x1 3
    have e4 := cell_blk HB.out.x1 4
    have e5 := cell_blk HB.out.x1 5
    have e6 := cell_blk HB.out.x1 6
    have e7 := cell_blk HB.out.x1 7
    have e8 := cell_blk HB.out.x1 8
    have e9 := cell_blk HB.out.x1 9
    have e10 := cell_blk HB.out.x1 10
    have f0 := cell_blk HB.out.x2 0
    have f1 := cell_blk HB.out.x2 1
    have f2 := cell_blk HB.out.x2 2
    have f3 := cell_blk HB.out.x2 3
    have f4 := cell_blk HB.out.x2 4
    have f5 := cell_blk HB.out.x2 5
    have f6 := cell_blk HB.out.x2 6
    have f7 := cell_blk HB.out.x2 7
    have f8 := cell_blk HB.out.x2 8
    have f9 := cell_blk HB.out.x2 9
    have f10 := cell_blk HB.out.x2 10
    by_cases d1 : (3000 : Int) < d
    · skip
      have HXA := Lib.hid (HAW.out _ HB.out.bw)
      go_wp2_with fail
      (with_reducible refine HXA.out.mono ?_)
      rintro e wy ⟨rfl, q⟩
      go_wp2_with fail
      go_returns
      exact ⟨rfl, (HB.out.bw).trans (q.mono (HB.out.bw).size)⟩
    have d2 : decide ((3000 : Int) < d) = false := by simpa using d1
    by_cases s1 : (300 : Int) < (sw.size : Int)
    · skip
      have HXA := Lib.hid (HAW.out _ HB.out.bw)
      go_wp2_with fail
      (with_reducible refine HXA.out.mono ?_)
      rintro e wy ⟨rfl, q⟩
      go_wp2_with fail
      go_returns
      exact ⟨rfl, (HB.out.bw).trans (q.mono (HB.out.bw).size)⟩
    have s2 : decide ((300 : Int) < (sw.size : Int)) = false := by simpa using s1
    have HWS := Lib.hid (HWS0.out (by omega))
    clear HWS0
    go_wp2_with fail
    (with_reducible refine (HPX.out _ HB.out.bw).mono ?_)
    rintro e wz ⟨rfl, q⟩
    have HB := Lib.hid (HB.out.keep q)
    clear q
    clear e0 e1 e2 e3 e4 e5 e6 e7 e8 e9 e10 f0 f1 f2 f3 f4 f5 f6 f7 f8 f9 f10
    have e0 := cell_blk HB.out.x1 0
    have e1 := cell_blk HB.out.x1 1
    have e2 := cell_blk HB.out.x1 2
    have e3 := cell_blk HB.out.x1 3
    have e4 := cell_blk HB.out.x1 4
    have e5 := cell_blk HB.out.x1 5
    have e6 := cell_blk HB.out.x1 6
    have e7 := cell_blk HB.out.x1 7
    have e8 := cell_blk HB.out.x1 8
    have e9 := cell_blk HB.out.x1 9
    have e10 := cell_blk HB.out.x1 10
    have f0 := cell_blk HB.out.x2 0
    have f1 := cell_blk HB.out.x2 1
    have f2 := cell_blk HB.out.x2 2
    have f3 := cell_blk HB.out.x2 3
    have f4 := cell_blk HB.out.x2 4
    have f5 := cell_blk HB.out.x2 5
    have f6 := cell_blk HB.out.x2 6
    have f7 := cell_blk HB.out.x2 7
    have f8 := cell_blk HB.out.x2 8
    have f9 := cell_blk HB.out.x2 9
    have f10 := cell_blk HB.out.x2 10
    go_wp2_with fail
    (with_reducible refine (HPY.out _ HB.out.bw).mono ?_)
    rintro e wz ⟨rfl, q⟩
    have HB := Lib.hid (HB.out.keep q)
    clear q
    clear e0 e1 e2 e3 e4 e5 e6 e7 e8 e9 e10 f0 f1 f2 f3 f4 f5 f6 f7 f8 f9 f10
    have e0 := cell_blk HB.out.x1 0
    have e1 := cell_blk HB.out.x1 1
    have e2 := cell_blk HB.out.x1 2
    have e3 := cell_blk HB.out.x1 3
    have e4 := cell_blk HB.out.x1 4
    have e5 := cell_blk HB.out.x1 5
    have e6 := cell_blk HB.out.x1 6
    have e7 := cell_blk HB.out.x1 7
    have e8 := cell_blk HB.out.x1 8
    have e9 := cell_blk HB.out.x1 9
    have e10 := cell_blk HB.out.x1 10
    have f0 := cell_blk HB.out.x2 0
    have f1 := cell_blk HB.out.x2 1
    have f2 := cell_blk HB.out.x2 2
    have f3 := cell_blk HB.out.x2 3
    have f4 := cell_blk HB.out.x2 4
    have f5 := cell_blk HB.out.x2 5
    have f6 := cell_blk HB.out.x2 6
    have f7 := cell_blk HB.out.x2 7
    have f8 := cell_blk HB.out.x2 8
    have f9 := cell_blk HB.out.x2 9
    have f10 := cell_blk HB.out.x2 10
    go_wp2_with fail
    (with_reducible refine (HRX.out _ HB.out.bw).mono ?_)
    rintro e wz ⟨rfl, q⟩
    have HB := Lib.hid (HB.out.keep q)
    clear q
    clear e0 e1 e2 e3 e4 e5 e6 e7 e8 e9 e10 f0 f1 f2 f3 f4 f5 f6 f7 f8 f9 f10
    have e0 := cell_blk HB.out.x1 0
    have e1 := cell_blk HB.out.x1 1
    have e2 := cell_blk HB.out.x1 2
    have e3 := cell_blk HB.out.x1 3
    have e4 := cell_blk HB.out.x1 4
    have e5 := cell_blk HB.out.x1 5
    have e6 := cell_blk HB.out.x1 6
    have e7 := cell_blk HB.out.x1 7
    have e8 := cell_blk HB.out.x1 8
    have e9 := cell_blk HB.out.x1 9
    have e10 := cell_blk HB.out.x1 10
    have f0 := cell_blk HB.out.x2 0
    have f1 := cell_blk HB.out.x2 1
    have f2 := cell_blk HB.out.x2 2
    have f3 := cell_blk HB.out.x2 3
    have f4 := cell_blk HB.out.x2 4
    have f5 := cell_blk HB.out.x2 5
    have f6 := cell_blk HB.out.x2 6
    have f7 := cell_blk HB.out.x2 7
    have f8 := cell_blk HB.out.x2 8
    have f9 := cell_blk HB.out.x2 9
    have f10 := cell_blk HB.out.x2 10
    clear HPX HPY HRX HCX HCY
    cases r
    · obtain rfl : EX = 110 := HEX1.out.symm
      obtain rfl : TX = ⟨#[]⟩ := HTX.out.symm
      clear HSY HSZ HEQ2 HWD HCB1 HCB2 HEX1 HTX HTY HEY1
      clear e0 e1 e2 e3 e4 e5 e6 e7 e8 e9 e10 f0 f1 f2 f3 f4 f5 f6 f7 f8 f9 f10
      have HW := Lib.hid HB.out.bw
      clear HB
      have HX := Lib.hid (HWS.out _ HW.out)
      go_wp2_with fail
      (with_reducible refine HX.out.mono ?_)
      rintro e wa ⟨ao, cc, rfl, q, HTK⟩
      have HW := Lib.hid (HW.out.trans (q.out.mono HW.out.size))
      clear q HX
      have HX := Lib.hid (HCM.out wa ao L cc lw HW.out HTK.out HLN.out.tb)
      rw [HE1.out, HE2.out, HE3.out] at HX
      go_wp2_with fail
      (with_reducible refine HX.out.mono ?_)
      rintro e wb ⟨gx, rfl, HBx, HCx⟩
      clear HX HTK
      obtain ⟨bx, hbx⟩ : ∃ z, wb.heap.size = z := ⟨_, rfl⟩
      obtain ⟨wd, hwx⟩ : ∃ y, wb.alloc (.cells #[.string gx.wb, .slice gx.an gx.nl gx.nc, .slice gx.am gx.ml gx.mc, .int .i64 gx.lo, .int .i64 gx.hi, .bool gx.hl, .bool gx.hh, .int .u8 gx.z.p.op, .string gx.z.p.nm, .slice gx.z.an gx.z.nn gx.z.nc, .slice gx.z.aa gx.z.p.k gx.z.ac] 42) = y := ⟨_, rfl⟩
      have KA : Below wb.heap.size wb wd := by rw [← hwx]; exact (Below.refl _ wb).alloc (Nat.le_refl _) _
      have H8 : Hid (wd.heap[bx]? = some (.cells #[.string gx.wb, .slice gx.an gx.nl gx.nc, .slice gx.am gx.ml gx.mc, .int .i64 gx.lo, .int .i64 gx.hi, .bool gx.hl, .bool gx.hh, .int .u8 gx.z.p.op, .string gx.z.p.nm, .slice gx.z.an gx.z.nn gx.z.nc, .slice gx.z.aa gx.z.p.k gx.z.ac] 42 (0, 0))) := Lib.hid (by rw [← hwx, ← hbx, al_new])
      have HW := Lib.hid ((HW.out.trans (HBx.out.mono HW.out.size)).trans (KA.mono (Nat.le_trans HW.out.size HBx.out.size)))
      have HCx := Lib.hid (HCx.out.keep KA)
      clear HBx
      have HWX := Lib.hid hwx
      have HBX := Lib.hid hbx
      clear KA hwx hbx
      go_upto_region 14 with fail
      rw [HWX.out, HBX.out]
      clear HWX HBX
      by_cases p1 : pa = -1
      · by_cases p2 : cd = 0
        · have HRC := Lib.hid (HRT.out p2)
          subst p1
          subst p2
          have HX := Lib.hid (HPC.out wd gx HW.out HCx.out HRC.out)
          have k0 := cell_blk H8.out 0
          have k1 := cell_blk H8.out 1
          have k2 := cell_blk H8.out 2
          have k3 := cell_blk H8.out 3
          have k4 := cell_blk H8.out 4
          have k5 := cell_blk H8.out 5
          have k6 := cell_blk H8.out 6
          have k7 := cell_blk H8.out 7
          have k8 := cell_blk H8.out 8
          have k9 := cell_blk H8.out 9
          have k10 := cell_blk H8.out 10
          go_wp2_with fail
          (with_reducible refine HX.out.mono ?_)
          rintro e we ⟨rfl, q⟩
          have HW := Lib.hid (HW.out.trans (q.mono HW.out.size))
          have H8 := Lib.hid (blk_below H8.out q)
          have HCx := Lib.hid (HCx.out.keep q)
          clear q HX
          clear k0 k1 k2 k3 k4 k5 k6 k7 k8 k9 k10
          have HX := Lib.hid (HWZ.out we HW.out HCx.out HRC.out)
          go_wp2_with fail
          (with_reducible refine HX.out.mono ?_)
          rintro e wf ⟨ao2, cc2, rfl, q, HTK⟩
          have HW := Lib.hid (HW.out.trans (q.out.mono HW.out.size))
          have H8 := Lib.hid (blk_below H8.out q.out)
          have HCx := Lib.hid (HCx.out.keep q.out)
          clear q HX
          have HX := Lib.hid (HCZ.out wf ao2 cc2 HW.out HTK.out HCx.out HRC.out)
          go_wp2_with fail
          (with_reducible refine HX.out.mono ?_)
          rintro e wg ⟨gy, rfl, HBy, HCy⟩
          clear HX HTK
          obtain ⟨by_, hbx⟩ : ∃ z, wg.heap.size = z := ⟨_, rfl⟩
          obtain ⟨wh, hwx⟩ : ∃ y, wg.alloc (.cells #[.string gy.wb, .slice gy.an gy.nl gy.nc, .slice gy.am gy.ml gy.mc, .int .i64 gy.lo, .int .i64 gy.hi, .bool gy.hl, .bool gy.hh, .int .u8 gy.z.p.op, .string gy.z.p.nm, .slice gy.z.an gy.z.nn gy.z.nc, .slice gy.z.aa gy.z.p.k gy.z.ac] 42) = y := ⟨_, rfl⟩
          have KA : Below wg.heap.size wg wh := by rw [← hwx]; exact (Below.refl _ wg).alloc (Nat.le_refl _) _
          have H9 : Hid (wh.heap[by_]? = some (.cells #[.string gy.wb, .slice gy.an gy.nl gy.nc, .slice gy.am gy.ml gy.mc, .int .i64 gy.lo, .int .i64 gy.hi, .bool gy.hl, .bool gy.hh, .int .u8 gy.z.p.op, .string gy.z.p.nm, .slice gy.z.an gy.z.nn gy.z.nc, .slice gy.z.aa gy.z.p.k gy.z.ac] 42 (0, 0))) := Lib.hid (by rw [← hwx, ← hbx, al_new])
          have HW := Lib.hid ((HW.out.trans (HBy.out.mono HW.out.size)).trans (KA.mono (Nat.le_trans HW.out.size HBy.out.size)))
          have HCy := Lib.hid (HCy.out.keep KA)
          have H8 := Lib.hid (blk_below (blk_below H8.out HBy.out) KA)
          have HCx := Lib.hid ((HCx.out.keep HBy.out).keep KA)
          clear HBy
          have HWX := Lib.hid hwx
          have HBX := Lib.hid hbx
          clear KA hwx hbx
          go_upto_region 19 with fail
          rw [HWX.out, HBX.out]
          clear HWX HBX
          have k0 := cell_blk H8.out 0
          have k1 := cell_blk H8.out 1
          have k2 := cell_blk H8.out 2
          have k3 := cell_blk H8.out 3
          have k4 := cell_blk H8.out 4
          have k5 := cell_blk H8.out 5
          have k6 := cell_blk H8.out 6
          have k7 := cell_blk H8.out 7
          have k8 := cell_blk H8.out 8
          have k9 := cell_blk H8.out 9
          have k10 := cell_blk H8.out 10
          have m0 := cell_blk H9.out 0
          have m1 := cell_blk H9.out 1
          have m2 := cell_blk H9.out 2
          have m3 := cell_blk H9.out 3
          have m4 := cell_blk H9.out 4
          have m5 := cell_blk H9.out 5
          have m6 := cell_blk H9.out 6
          have m7 := cell_blk H9.out 7
          have m8 := cell_blk H9.out 8
          have m9 := cell_blk H9.out 9
          have m10 := cell_blk H9.out 10
          have HX := Lib.hid (csame_flat wh 41 41 cz cz gx gy HCx.out HCy.out true ⟨fun _ => rfl, fun _ => rfl⟩)
          go_wp2_with fail
          (with_reducible refine HX.out.mono ?_)
          rintro e wi ⟨rfl, q⟩
          have HW := Lib.hid (HW.out.trans (q.mono HW.out.size))
          clear q HX H8 H9 HCx HCy
          clear k0 k1 k2 k3 k4 k5 k6 k7 k8 k9 k10 m0 m1 m2 m3 m4 m5 m6 m7 m8 m9 m10
          have HXA := Lib.hid (HAW.out _ HW.out)
          go_wp2_with fail
          (with_reducible refine HXA.out.mono ?_)
          rintro e wy ⟨rfl, q⟩
          go_wp2_with fail
          go_returns
          exact ⟨rfl, (HW.out).trans (q.mono (HW.out).size)⟩
        · have p3 : (cd != 0) = true := by rw [bne_iff_ne]; exact p2
          subst p1
          have HXA := Lib.hid (HAW.out _ HW.out)
          go_wp2_with fail
          (with_reducible refine HXA.out.mono ?_)
          rintro e wy ⟨rfl, q⟩
          go_wp2_with fail
          go_returns
          exact ⟨rfl, (HW.out).trans (q.mono (HW.out).size)⟩
      · have p3 : (pa != -1) = true := by rw [bne_iff_ne]; exact p1
        have HXA := Lib.hid (HAW.out _ HW.out)
        go_wp2_with fail
        (with_reducible refine HXA.out.mono ?_)
        rintro e wy ⟨rfl, q⟩
        go_wp2_with fail
        go_returns
        exact ⟨rfl, (HW.out).trans (q.mono (HW.out).size)⟩
    have HWD2 : Hid (∀ W (k : Below w.heap.size w W), Calls Tryz.prog 9 #[.string SX] W fun e w' => ∃ ao c, e = .returned (.tuple #[.slice ao (Lx.toldC cm ((Lx.shape cm.word).getD [])).length c, .int .i64 (-1)]) ∧ Hid (Below W.heap.size W w') ∧ Hid (TkAt w' ao (Lx.toldC cm ((Lx.shape cm.word).getD [])).length c (Lx.toldC cm ((Lx.shape cm.word).getD [])))) := Lib.hid (fun W k => HWD.out W k (by trivial))
    have HTKB2 : Hid (Lx.TkB (Lx.toldC cm ((Lx.shape cm.word).getD [])) ∧ Lx.cmE (Lx.toldC cm ((Lx.shape cm.word).getD [])) = (cm, -1, 0)) := Lib.hid ⟨HCB1.out (by trivial), HCB2.out (by trivial)⟩
    have HEQ3 : Hid (s = true → (SX.toList == SY.toList) = t) := Lib.hid (HEQ2.out (by trivial))
    obtain rfl : EX = 0 := HEX1.out.symm
    obtain rfl : SX = TX := HTX.out
    clear HWD HCB1 HCB2 HEQ2 HEX1 HTX
    obtain ⟨lx, hlx⟩ : ∃ lx, Lx.toldC cm ((Lx.shape cm.word).getD []) = lx := ⟨_, rfl⟩
    rw [hlx] at HWD2 HTKB2
    obtain ⟨LX, hLX⟩ : ∃ LX, lx.length = LX := ⟨_, rfl⟩
    rw [hLX] at HWD2
    clear hlx hLX
    go_wp2_with fail
    (with_reducible refine (HWD2.out _ HB.out.bw).mono ?_)
    rintro e w4 ⟨ao, cc, rfl, q, HTK⟩
    have HB := Lib.hid (HB.out.keep q.out)
    clear q HWD2
    clear e0 e1 e2 e3 e4 e5 e6 e7 e8 e9 e10 f0 f1 f2 f3 f4 f5 f6 f7 f8 f9 f10
    have HX := Lib.hid (HCM.out w4 ao LX cc lx HB.out.bw HTK.out HTKB2.out.1)
    rw [HTKB2.out.2] at HX
    dsimp only at HX
    clear HTKB2
    go_wp2_with fail
    (with_reducible refine HX.out.mono ?_)
    rintro e w5 ⟨gz, rfl, HB5, HC5⟩
    clear HX HTK
    obtain ⟨b8, hbx⟩ : ∃ z, w5.heap.size = z := ⟨_, rfl⟩
    obtain ⟨w6, hwx⟩ : ∃ y, w5.alloc (.cells #[.string gz.wb, .slice gz.an gz.nl gz.nc, .slice gz.am gz.ml gz.mc, .int .i64 gz.lo, .int .i64 gz.hi, .bool gz.hl, .bool gz.hh, .int .u8 gz.z.p.op, .string gz.z.p.nm, .slice gz.z.an gz.z.nn gz.z.nc, .slice gz.z.aa gz.z.p.k gz.z.ac] 42) = y := ⟨_, rfl⟩
    have KA : Below w5.heap.size w5 w6 := by rw [← hwx]; exact (Below.refl _ w5).alloc (Nat.le_refl _) _
    have H7 : Hid (w6.heap[b8]? = some (.cells #[.string gz.wb, .slice gz.an gz.nl gz.nc, .slice gz.am gz.ml gz.mc, .int .i64 gz.lo, .int .i64 gz.hi, .bool gz.hl, .bool gz.hh, .int .u8 gz.z.p.op, .string gz.z.p.nm, .slice gz.z.an gz.z.nn gz.z.nc, .slice gz.z.aa gz.z.p.k gz.z.ac] 42 (0, 0))) := Lib.hid (by rw [← hwx, ← hbx, al_new])
    have HB := Lib.hid ((HB.out.keep HB5.out).keep KA)
    have HC5 := Lib.hid (HC5.out.keep KA)
    clear HB5
    have HWX := Lib.hid hwx
    have HBX := Lib.hid hbx
    clear KA hwx hbx
    go_upto_region 10 with fail
    rw [HWX.out, HBX.out]
    clear HWX HBX
    have e0 := cell_blk HB.out.x1 0
    have e1 := cell_blk HB.out.x1 1
    have e2 := cell_blk HB.out.x1 2
    have e3 := cell_blk HB.out.x1 3
    have e4 := cell_blk HB.out.x1 4
    have e5 := cell_blk HB.out.x1 5
    have e6 := cell_blk HB.out.x1 6
    have e7 := cell_blk HB.out.x1 7
    have e8 := cell_blk HB.out.x1 8
    have e9 := cell_blk HB.out.x1 9
    have e10 := cell_blk HB.out.x1 10
    have f0 := cell_blk HB.out.x2 0
    have f1 := cell_blk HB.out.x2 1
    have f2 := cell_blk HB.out.x2 2
    have f3 := cell_blk HB.out.x2 3
    have f4 := cell_blk HB.out.x2 4
    have f5 := cell_blk HB.out.x2 5
    have f6 := cell_blk HB.out.x2 6
    have f7 := cell_blk HB.out.x2 7
    have f8 := cell_blk HB.out.x2 8
    have f9 := cell_blk HB.out.x2 9
    have f10 := cell_blk HB.out.x2 10
    have k0 := cell_blk H7.out 0
    have k1 := cell_blk H7.out 1
    have k2 := cell_blk H7.out 2
    have k3 := cell_blk H7.out 3
    have k4 := cell_blk H7.out 4
    have k5 := cell_blk H7.out 5
    have k6 := cell_blk H7.out 6
    have k7 := cell_blk H7.out 7
    have k8 := cell_blk H7.out 8
    have k9 := cell_blk H7.out 9
    have k10 := cell_blk H7.out 10
    have HX := Lib.hid (HSZ.out w6 HB.out.bw gz HC5.out)
    go_wp2_with fail
    (with_reducible refine HX.out.mono ?_)
    rintro e w7 ⟨rfl, q⟩
    have HB := Lib.hid (HB.out.keep q)
    clear q HX HSZ H7 HC5
    clear e0 e1 e2 e3 e4 e5 e6 e7 e8 e9 e10 f0 f1 f2 f3 f4 f5 f6 f7 f8 f9 f10 k0 k1 k2 k3 k4 k5 k6 k7 k8 k9 k10
    have e0 := cell_blk HB.out.x1 0
    have e1 := cell_blk HB.out.x1 1
    have e2 := cell_blk HB.out.x1 2
    have e3 := cell_blk HB.out.x1 3
    have e4 := cell_blk HB.out.x1 4
    have e5 := cell_blk HB.out.x1 5
    have e6 := cell_blk HB.out.x1 6
    have e7 := cell_blk HB.out.x1 7
    have e8 := cell_blk HB.out.x1 8
    have e9 := cell_blk HB.out.x1 9
    have e10 := cell_blk HB.out.x1 10
    have f0 := cell_blk HB.out.x2 0
    have f1 := cell_blk HB.out.x2 1
    have f2 := cell_blk HB.out.x2 2
    have f3 := cell_blk HB.out.x2 3
    have f4 := cell_blk HB.out.x2 4
    have f5 := cell_blk HB.out.x2 5
    have f6 := cell_blk HB.out.x2 6
    have f7 := cell_blk HB.out.x2 7
    have f8 := cell_blk HB.out.x2 8
    have f9 := cell_blk HB.out.x2 9
    have f10 := cell_blk HB.out.x2 10
    cases s
    · obtain rfl : EY = 110 := HEY1.out.symm
      clear HSY HEQ3 HTY HEY1
      clear e0 e1 e2 e3 e4 e5 e6 e7 e8 e9 e10 f0 f1 f2 f3 f4 f5 f6 f7 f8 f9 f10
      have HW := Lib.hid HB.out.bw
      clear HB
      have HX := Lib.hid (HWS.out _ HW.out)
      go_wp2_with fail
      (with_reducible refine HX.out.mono ?_)
      rintro e wa ⟨ao, cc, rfl, q, HTK⟩
      have HW := Lib.hid (HW.out.trans (q.out.mono HW.out.size))
      clear q HX
      have HX := Lib.hid (HCM.out wa ao L cc lw HW.out HTK.out HLN.out.tb)
      rw [HE1.out, HE2.out, HE3.out] at HX
      go_wp2_with fail
      (with_reducible refine HX.out.mono ?_)
      rintro e wb ⟨gx, rfl, HBx, HCx⟩
      clear HX HTK
      obtain ⟨bx, hbx⟩ : ∃ z, wb.heap.size = z := ⟨_, rfl⟩
      obtain ⟨wd, hwx⟩ : ∃ y, wb.alloc (.cells #[.string gx.wb, .slice gx.an gx.nl gx.nc, .slice gx.am gx.ml gx.mc, .int .i64 gx.lo, .int .i64 gx.hi, .bool gx.hl, .bool gx.hh, .int .u8 gx.z.p.op, .string gx.z.p.nm, .slice gx.z.an gx.z.nn gx.z.nc, .slice gx.z.aa gx.z.p.k gx.z.ac] 42) = y := ⟨_, rfl⟩
      have KA : Below wb.heap.size wb wd := by rw [← hwx]; exact (Below.refl _ wb).alloc (Nat.le_refl _) _
      have H8 : Hid (wd.heap[bx]? = some (.cells #[.string gx.wb, .slice gx.an gx.nl gx.nc, .slice gx.am gx.ml gx.mc, .int .i64 gx.lo, .int .i64 gx.hi, .bool gx.hl, .bool gx.hh, .int .u8 gx.z.p.op, .string gx.z.p.nm, .slice gx.z.an gx.z.nn gx.z.nc, .slice gx.z.aa gx.z.p.k gx.z.ac] 42 (0, 0))) := Lib.hid (by rw [← hwx, ← hbx, al_new])
      have HW := Lib.hid ((HW.out.trans (HBx.out.mono HW.out.size)).trans (KA.mono (Nat.le_trans HW.out.size HBx.out.size)))
      have HCx := Lib.hid (HCx.out.keep KA)
      clear HBx
      have HWX := Lib.hid hwx
      have HBX := Lib.hid hbx
      clear KA hwx hbx
      go_upto_region 14 with fail
      rw [HWX.out, HBX.out]
      clear HWX HBX
      by_cases p1 : pa = -1
      · by_cases p2 : cd = 0
        · have HRC := Lib.hid (HRT.out p2)
          subst p1
          subst p2
          have HX := Lib.hid (HPC.out wd gx HW.out HCx.out HRC.out)
          have k0 := cell_blk H8.out 0
          have k1 := cell_blk H8.out 1
          have k2 := cell_blk H8.out 2
          have k3 := cell_blk H8.out 3
          have k4 := cell_blk H8.out 4
          have k5 := cell_blk H8.out 5
          have k6 := cell_blk H8.out 6
          have k7 := cell_blk H8.out 7
          have k8 := cell_blk H8.out 8
          have k9 := cell_blk H8.out 9
          have k10 := cell_blk H8.out 10
          go_wp2_with fail
          (with_reducible refine HX.out.mono ?_)
          rintro e we ⟨rfl, q⟩
          have HW := Lib.hid (HW.out.trans (q.mono HW.out.size))
          have H8 := Lib.hid (blk_below H8.out q)
          have HCx := Lib.hid (HCx.out.keep q)
          clear q HX
          clear k0 k1 k2 k3 k4 k5 k6 k7 k8 k9 k10
          have HX := Lib.hid (HWZ.out we HW.out HCx.out HRC.out)
          go_wp2_with fail
          (with_reducible refine HX.out.mono ?_)
          rintro e wf ⟨ao2, cc2, rfl, q, HTK⟩
          have HW := Lib.hid (HW.out.trans (q.out.mono HW.out.size))
          have H8 := Lib.hid (blk_below H8.out q.out)
          have HCx := Lib.hid (HCx.out.keep q.out)
          clear q HX
          have HX := Lib.hid (HCZ.out wf ao2 cc2 HW.out HTK.out HCx.out HRC.out)
          go_wp2_with fail
          (with_reducible refine HX.out.mono ?_)
          rintro e wg ⟨gy, rfl, HBy, HCy⟩
          clear HX HTK
          obtain ⟨by_, hbx⟩ : ∃ z, wg.heap.size = z := ⟨_, rfl⟩
          obtain ⟨wh, hwx⟩ : ∃ y, wg.alloc (.cells #[.string gy.wb, .slice gy.an gy.nl gy.nc, .slice gy.am gy.ml gy.mc, .int .i64 gy.lo, .int .i64 gy.hi, .bool gy.hl, .bool gy.hh, .int .u8 gy.z.p.op, .string gy.z.p.nm, .slice gy.z.an gy.z.nn gy.z.nc, .slice gy.z.aa gy.z.p.k gy.z.ac] 42) = y := ⟨_, rfl⟩
          have KA : Below wg.heap.size wg wh := by rw [← hwx]; exact (Below.refl _ wg).alloc (Nat.le_refl _) _
          have H9 : Hid (wh.heap[by_]? = some (.cells #[.string gy.wb, .slice gy.an gy.nl gy.nc, .slice gy.am gy.ml gy.mc, .int .i64 gy.lo, .int .i64 gy.hi, .bool gy.hl, .bool gy.hh, .int .u8 gy.z.p.op, .string gy.z.p.nm, .slice gy.z.an gy.z.nn gy.z.nc, .slice gy.z.aa gy.z.p.k gy.z.ac] 42 (0, 0))) := Lib.hid (by rw [← hwx, ← hbx, al_new])
          have HW := Lib.hid ((HW.out.trans (HBy.out.mono HW.out.size)).trans (KA.mono (Nat.le_trans HW.out.size HBy.out.size)))
          have HCy := Lib.hid (HCy.out.keep KA)
          have H8 := Lib.hid (blk_below (blk_below H8.out HBy.out) KA)
          have HCx := Lib.hid ((HCx.out.keep HBy.out).keep KA)
          clear HBy
          have HWX := Lib.hid hwx
          have HBX := Lib.hid hbx
          clear KA hwx hbx
          go_upto_region 19 with fail
          rw [HWX.out, HBX.out]
          clear HWX HBX
          have k0 := cell_blk H8.out 0
          have k1 := cell_blk H8.out 1
          have k2 := cell_blk H8.out 2
          have k3 := cell_blk H8.out 3
          have k4 := cell_blk H8.out 4
          have k5 := cell_blk H8.out 5
          have k6 := cell_blk H8.out 6
          have k7 := cell_blk H8.out 7
          have k8 := cell_blk H8.out 8
          have k9 := cell_blk H8.out 9
          have k10 := cell_blk H8.out 10
          have m0 := cell_blk H9.out 0
          have m1 := cell_blk H9.out 1
          have m2 := cell_blk H9.out 2
          have m3 := cell_blk H9.out 3
          have m4 := cell_blk H9.out 4
          have m5 := cell_blk H9.out 5
          have m6 := cell_blk H9.out 6
          have m7 := cell_blk H9.out 7
          have m8 := cell_blk H9.out 8
          have m9 := cell_blk H9.out 9
          have m10 := cell_blk H9.out 10
          have HX := Lib.hid (csame_flat wh 41 41 cz cz gx gy HCx.out HCy.out true ⟨fun _ => rfl, fun _ => rfl⟩)
          go_wp2_with fail
          (with_reducible refine HX.out.mono ?_)
          rintro e wi ⟨rfl, q⟩
          have HW := Lib.hid (HW.out.trans (q.mono HW.out.size))
          clear q HX H8 H9 HCx HCy
          clear k0 k1 k2 k3 k4 k5 k6 k7 k8 k9 k10 m0 m1 m2 m3 m4 m5 m6 m7 m8 m9 m10
          have HXA := Lib.hid (HAW.out _ HW.out)
          go_wp2_with fail
          (with_reducible refine HXA.out.mono ?_)
          rintro e wy ⟨rfl, q⟩
          go_wp2_with fail
          go_returns
          exact ⟨rfl, (HW.out).trans (q.mono (HW.out).size)⟩
        · have p3 : (cd != 0) = true := by rw [bne_iff_ne]; exact p2
          subst p1
          have HXA := Lib.hid (HAW.out _ HW.out)
          go_wp2_with fail
          (with_reducible refine HXA.out.mono ?_)
          rintro e wy ⟨rfl, q⟩
          go_wp2_with fail
          go_returns
          exact ⟨rfl, (HW.out).trans (q.mono (HW.out).size)⟩
      · have p3 : (pa != -1) = true := by rw [bne_iff_ne]; exact p1
        have HXA := Lib.hid (HAW.out _ HW.out)
        go_wp2_with fail
        (with_reducible refine HXA.out.mono ?_)
        rintro e wy ⟨rfl, q⟩
        go_wp2_with fail
        go_returns
        exact ⟨rfl, (HW.out).trans (q.mono (HW.out).size)⟩
    have HEQ4 : (SX.toList == SY.toList) = t := HEQ3.out (by trivial)
    have htt : (t != t) = false := by cases t <;> rfl
    obtain rfl : EY = 0 := HEY1.out.symm
    obtain rfl : SY = TY := HTY.out
    clear HEY1 HTY
    go_wp2_with fail
    (with_reducible refine (HSY.out _ HB.out.bw).mono ?_)
    rintro e wz ⟨rfl, q⟩
    have HB := Lib.hid (HB.out.keep q)
    clear q
    clear e0 e1 e2 e3 e4 e5 e6 e7 e8 e9 e10 f0 f1 f2 f3 f4 f5 f6 f7 f8 f9 f10
    have e0 := cell_blk HB.out.x1 0
    have e1 := cell_blk HB.out.x1 1
    have e2 := cell_blk HB.out.x1 2
    have e3 := cell_blk HB.out.x1 3
    have e4 := cell_blk HB.out.x1 4
    have e5 := cell_blk HB.out.x1 5
    have e6 := cell_blk HB.out.x1 6
    have e7 := cell_blk HB.out.x1 7
    have e8 := cell_blk HB.out.x1 8
    have e9 := cell_blk HB.out.x1 9
    have e10 := cell_blk HB.out.x1 10
    have f0 := cell_blk HB.out.x2 0
    have f1 := cell_blk HB.out.x2 1
    have f2 := cell_blk HB.out.x2 2
    have f3 := cell_blk HB.out.x2 3
    have f4 := cell_blk HB.out.x2 4
    have f5 := cell_blk HB.out.x2 5
    have f6 := cell_blk HB.out.x2 6
    have f7 := cell_blk HB.out.x2 7
    have f8 := cell_blk HB.out.x2 8
    have f9 := cell_blk HB.out.x2 9
    have f10 := cell_blk HB.out.x2 10
    clear HSY HEQ3
    clear e0 e1 e2 e3 e4 e5 e6 e7 e8 e9 e10 f0 f1 f2 f3 f4 f5 f6 f7 f8 f9 f10
    have HW := Lib.hid HB.out.bw
    clear HB
    have HX := Lib.hid (HWS.out _ HW.out)
    go_wp2_with fail
    (with_reducible refine HX.out.mono ?_)
    rintro e wa ⟨ao, cc, rfl, q, HTK⟩
    have HW := Lib.hid (HW.out.trans (q.out.mono HW.out.size))
    clear q HX
    have HX := Lib.hid (HCM.out wa ao L cc lw HW.out HTK.out HLN.out.tb)
    rw [HE1.out, HE2.out, HE3.out] at HX
    go_wp2_with fail
    (with_reducible refine HX.out.mono ?_)
    rintro e wb ⟨gx, rfl, HBx, HCx⟩
    clear HX HTK
    obtain ⟨bx, hbx⟩ : ∃ z, wb.heap.size = z := ⟨_, rfl⟩
    obtain ⟨wd, hwx⟩ : ∃ y, wb.alloc (.cells #[.string gx.wb, .slice gx.an gx.nl gx.nc, .slice gx.am gx.ml gx.mc, .int .i64 gx.lo, .int .i64 gx.hi, .bool gx.hl, .bool gx.hh, .int .u8 gx.z.p.op, .string gx.z.p.nm, .slice gx.z.an gx.z.nn gx.z.nc, .slice gx.z.aa gx.z.p.k gx.z.ac] 42) = y := ⟨_, rfl⟩
    have KA : Below wb.heap.size wb wd := by rw [← hwx]; exact (Below.refl _ wb).alloc (Nat.le_refl _) _
    have H8 : Hid (wd.heap[bx]? = some (.cells #[.string gx.wb, .slice gx.an gx.nl gx.nc, .slice gx.am gx.ml gx.mc, .int .i64 gx.lo, .int .i64 gx.hi, .bool gx.hl, .bool gx.hh, .int .u8 gx.z.p.op, .string gx.z.p.nm, .slice gx.z.an gx.z.nn gx.z.nc, .slice gx.z.aa gx.z.p.k gx.z.ac] 42 (0, 0))) := Lib.hid (by rw [← hwx, ← hbx, al_new])
    have HW := Lib.hid ((HW.out.trans (HBx.out.mono HW.out.size)).trans (KA.mono (Nat.le_trans HW.out.size HBx.out.size)))
    have HCx := Lib.hid (HCx.out.keep KA)
    clear HBx
    have HWX := Lib.hid hwx
    have HBX := Lib.hid hbx
    clear KA hwx hbx
    go_upto_region 14 with fail
    rw [HWX.out, HBX.out]
    clear HWX HBX
    by_cases p1 : pa = -1
    · by_cases p2 : cd = 0
      · have HRC := Lib.hid (HRT.out p2)
        subst p1
        subst p2
        have HX := Lib.hid (HPC.out wd gx HW.out HCx.out HRC.out)
        have k0 := cell_blk H8.out 0
        have k1 := cell_blk H8.out 1
        have k2 := cell_blk H8.out 2
        have k3 := cell_blk H8.out 3
        have k4 := cell_blk H8.out 4
        have k5 := cell_blk H8.out 5
        have k6 := cell_blk H8.out 6
        have k7 := cell_blk H8.out 7
        have k8 := cell_blk H8.out 8
        have k9 := cell_blk H8.out 9
        have k10 := cell_blk H8.out 10
        go_wp2_with fail
        (with_reducible refine HX.out.mono ?_)
        rintro e we ⟨rfl, q⟩
        have HW := Lib.hid (HW.out.trans (q.mono HW.out.size))
        have H8 := Lib.hid (blk_below H8.out q)
        have HCx := Lib.hid (HCx.out.keep q)
        clear q HX
        clear k0 k1 k2 k3 k4 k5 k6 k7 k8 k9 k10
        have HX := Lib.hid (HWZ.out we HW.out HCx.out HRC.out)
        go_wp2_with fail
        (with_reducible refine HX.out.mono ?_)
        rintro e wf ⟨ao2, cc2, rfl, q, HTK⟩
        have HW := Lib.hid (HW.out.trans (q.out.mono HW.out.size))
        have H8 := Lib.hid (blk_below H8.out q.out)
        have HCx := Lib.hid (HCx.out.keep q.out)
        clear q HX
        have HX := Lib.hid (HCZ.out wf ao2 cc2 HW.out HTK.out HCx.out HRC.out)
        go_wp2_with fail
        (with_reducible refine HX.out.mono ?_)
        rintro e wg ⟨gy, rfl, HBy, HCy⟩
        clear HX HTK
        obtain ⟨by_, hbx⟩ : ∃ z, wg.heap.size = z := ⟨_, rfl⟩
        obtain ⟨wh, hwx⟩ : ∃ y, wg.alloc (.cells #[.string gy.wb, .slice gy.an gy.nl gy.nc, .slice gy.am gy.ml gy.mc, .int .i64 gy.lo, .int .i64 gy.hi, .bool gy.hl, .bool gy.hh, .int .u8 gy.z.p.op, .string gy.z.p.nm, .slice gy.z.an gy.z.nn gy.z.nc, .slice gy.z.aa gy.z.p.k gy.z.ac] 42) = y := ⟨_, rfl⟩
        have KA : Below wg.heap.size wg wh := by rw [← hwx]; exact (Below.refl _ wg).alloc (Nat.le_refl _) _
        have H9 : Hid (wh.heap[by_]? = some (.cells #[.string gy.wb, .slice gy.an gy.nl gy.nc, .slice gy.am gy.ml gy.mc, .int .i64 gy.lo, .int .i64 gy.hi, .bool gy.hl, .bool gy.hh, .int .u8 gy.z.p.op, .string gy.z.p.nm, .slice gy.z.an gy.z.nn gy.z.nc, .slice gy.z.aa gy.z.p.k gy.z.ac] 42 (0, 0))) := Lib.hid (by rw [← hwx, ← hbx, al_new])
        have HW := Lib.hid ((HW.out.trans (HBy.out.mono HW.out.size)).trans (KA.mono (Nat.le_trans HW.out.size HBy.out.size)))
        have HCy := Lib.hid (HCy.out.keep KA)
        have H8 := Lib.hid (blk_below (blk_below H8.out HBy.out) KA)
        have HCx := Lib.hid ((HCx.out.keep HBy.out).keep KA)
        clear HBy
        have HWX := Lib.hid hwx
        have HBX := Lib.hid hbx
        clear KA hwx hbx
        go_upto_region 19 with fail
        rw [HWX.out, HBX.out]
        clear HWX HBX
        have k0 := cell_blk H8.out 0
        have k1 := cell_blk H8.out 1
        have k2 := cell_blk H8.out 2
        have k3 := cell_blk H8.out 3
        have k4 := cell_blk H8.out 4
        have k5 := cell_blk H8.out 5
        have k6 := cell_blk H8.out 6
        have k7 := cell_blk H8.out 7
        have k8 := cell_blk H8.out 8
        have k9 := cell_blk H8.out 9
        have k10 := cell_blk H8.out 10
        have m0 := cell_blk H9.out 0
        have m1 := cell_blk H9.out 1
        have m2 := cell_blk H9.out 2
        have m3 := cell_blk H9.out 3
        have m4 := cell_blk H9.out 4
        have m5 := cell_blk H9.out 5
        have m6 := cell_blk H9.out 6
        have m7 := cell_blk H9.out 7
        have m8 := cell_blk H9.out 8
        have m9 := cell_blk H9.out 9
        have m10 := cell_blk H9.out 10
        have HX := Lib.hid (csame_flat wh 41 41 cz cz gx gy HCx.out HCy.out true ⟨fun _ => rfl, fun _ => rfl⟩)
        go_wp2_with fail
        (with_reducible refine HX.out.mono ?_)
        rintro e wi ⟨rfl, q⟩
        have HW := Lib.hid (HW.out.trans (q.mono HW.out.size))
        clear q HX H8 H9 HCx HCy
        clear k0 k1 k2 k3 k4 k5 k6 k7 k8 k9 k10 m0 m1 m2 m3 m4 m5 m6 m7 m8 m9 m10
        have HXA := Lib.hid (HAW.out _ HW.out)
        go_wp2_with fail
        (with_reducible refine HXA.out.mono ?_)
        rintro e wy ⟨rfl, q⟩
        go_wp2_with fail
        go_returns
        exact ⟨rfl, (HW.out).trans (q.mono (HW.out).size)⟩
      · have p3 : (cd != 0) = true := by rw [bne_iff_ne]; exact p2
        subst p1
        have HXA := Lib.hid (HAW.out _ HW.out)
        go_wp2_with fail
        (with_reducible refine HXA.out.mono ?_)
        rintro e wy ⟨rfl, q⟩
        go_wp2_with fail
        go_returns
        exact ⟨rfl, (HW.out).trans (q.mono (HW.out).size)⟩
    · have p3 : (pa != -1) = true := by rw [bne_iff_ne]; exact p1
      have HXA := Lib.hid (HAW.out _ HW.out)
      go_wp2_with fail
      (with_reducible refine HXA.out.mono ?_)
      rintro e wy ⟨rfl, q⟩
      go_wp2_with fail
      go_returns
      exact ⟨rfl, (HW.out).trans (q.mono (HW.out).size)⟩
end Go.Proofs.YtimjendkpjojoaaGreatDoor
