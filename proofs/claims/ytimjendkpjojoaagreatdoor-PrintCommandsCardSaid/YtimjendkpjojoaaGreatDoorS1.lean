/- Two commands beside each other: the law's own same. -/
import Derived.Test.YtimjendkpjojoaaGreatDoorKs
import Derived.Test.YtimjendkpjojoaaGreatDoorKp
import Derived.BigQuiet
namespace Go.Proofs.YtimjendkpjojoaaGreatDoor
set_option linter.unusedVariables false
set_option linter.unusedSimpArgs false
open Go.ChangeShapes Go.WideShapes Go.ChangeAt Go.RowKit
structure Bx3 (w0 w : World) (b : Nat) (cs ds : Array Value) : Prop where
  bw : Below w0.heap.size w0 w
  b1 : w.heap[b]? = some (.cells cs 42 (0, 0))
  b2 : w.heap[b + 1]? = some (.cells ds 42 (0, 0))
theorem Bx3.keep {w0 w w' : World} {b : Nat} {cs ds : Array Value} (h : Bx3 w0 w b cs ds) (q : Below w.heap.size w w') : Bx3 w0 w' b cs ds :=
  ⟨h.bw.trans (q.mono h.bw.size), blk_below h.b1 q, blk_below h.b2 q⟩
set_option maxRecDepth 20000 in
set_option maxHeartbeats 4000000 in
theorem csame_any (w : World) (D D' : Nat) (cm cn : Lx.Cm) (g h : Cg) (hg : CG w D cm g) (hh : CG w D' cn h) (r : Bool) (hr : r = true ↔ cm = cn) :
    Calls Tryz.prog 15 #[.agg (cgC g), .agg (cgC h)] w fun e w' => e = .returned (.bool r) ∧ Below w.heap.size w w' := by
  have HR := Lib.hid (hr.trans (cm_eq cm cn))
  obtain ⟨rx, hrx⟩ : ∃ rx : Bool, rx = true ↔ tour cm.ex = tour cn.ex := by classical exact ⟨decide _, decide_eq_true_iff⟩
  have HS := Lib.hid (fun W (k : Below w.heap.size w W) => same_any D (hV g.z) (tour cm.ex) D' (hV h.z) (tour cn.ex) W (hg.ex.keep k) (hh.ex.keep k) rx hrx)
  have HRX := Lib.hid (hrx.trans (tour_eq cm.ex cn.ex))
  have HG := Lib.hid hg
  have HH := Lib.hid hh
  obtain ⟨wb, an, nl, nc, am, ml, mc, lo, hi, gl, gh, z⟩ := g
  obtain ⟨wb', an', nl', nc', am', ml', mc', lo', hi', gl', gh', z'⟩ := h
  unfold hV pv at HS
  unfold cgC
  dsimp only at HS ⊢
  obtain ⟨b, hb⟩ : ∃ z, w.heap.size = z := ⟨_, rfl⟩
  obtain ⟨w1, hw1⟩ : ∃ y, (w.alloc (.cells (cgC ⟨wb, an, nl, nc, am, ml, mc, lo, hi, gl, gh, z⟩) 42)).alloc (.cells (cgC ⟨wb', an', nl', nc', am', ml', mc', lo', hi', gl', gh', z'⟩) 42) = y := ⟨_, rfl⟩
  have HB : Hid (Bx3 w w1 b (cgC ⟨wb, an, nl, nc, am, ml, mc, lo, hi, gl, gh, z⟩) (cgC ⟨wb', an', nl', nc', am', ml', mc', lo', hi', gl', gh', z'⟩)) := Lib.hid ⟨by rw [← hw1]; exact ((Below.refl _ w).alloc (Nat.le_refl _) _).alloc (by simp) _, by rw [← hw1, ← hb, al_old _ _ (by simp), al_new], by
    rw [← hw1, ← hb]
    have := al_new (w.alloc (.cells (cgC ⟨wb, an, nl, nc, am, ml, mc, lo, hi, gl, gh, z⟩) 42)) (.cells (cgC ⟨wb', an', nl', nc', am', ml', mc', lo', hi', gl', gh', z'⟩) 42)
    simpa using this⟩
  unfold cgC at hw1 HB
  dsimp only at hw1 HB
  clear hg hh hr hrx
  have e0 := cell_blk HB.out.b1 0
  have f0 := cell_blk HB.out.b2 0
  have e1 := cell_blk HB.out.b1 1
  have f1 := cell_blk HB.out.b2 1
  have e2 := cell_blk HB.out.b1 2
  have f2 := cell_blk HB.out.b2 2
  have e3 := cell_blk HB.out.b1 3
  have f3 := cell_blk HB.out.b2 3
  have e4 := cell_blk HB.out.b1 4
  have f4 := cell_blk HB.out.b2 4
  have e5 := cell_blk HB.out.b1 5
  have f5 := cell_blk HB.out.b2 5
  have e6 := cell_blk HB.out.b1 6
  have f6 := cell_blk HB.out.b2 6
  have e7 := cell_blk HB.out.b1 7
  have f7 := cell_blk HB.out.b2 7
  have e8 := cell_blk HB.out.b1 8
  have f8 := cell_blk HB.out.b2 8
  have e9 := cell_blk HB.out.b1 9
  have f9 := cell_blk HB.out.b2 9
  have e10 := cell_blk HB.out.b1 10
  have f10 := cell_blk HB.out.b2 10

  go_enter Tryz.func15, Tryz.ntmps15
  by_cases q1 : wb.toList = wb'.toList
  · have HQ1 : Hid (cm.word = cn.word) := Lib.hid (by
      have a : wb = _ := HG.out.wd
      have b : wb' = _ := HH.out.wd
      rw [a, b, word_eq] at q1; exact q1)
    obtain rfl : wb = wb' := (nm_inj _ _).1 q1
    clear q1
    by_cases a1 : lo = lo'
    · subst a1
      by_cases a1 : hi = hi'
      · subst a1
        by_cases a1 : gl = gl'
        · subst a1
          by_cases a1 : gh = gh'
          · subst a1
            have HQ2 : Hid (cm.rg = cn.rg) := Lib.hid (HG.out.rg.trans HH.out.rg.symm)
            have HNL : Hid (cm.names.length = nl) := Lib.hid (by have := HG.out.nn.len; simpa using this)
            have HNL' : Hid (cn.names.length = nl') := Lib.hid (by have := HH.out.nn.len; simpa using this)
            have HML : Hid (cm.nums.length = ml) := Lib.hid HG.out.mm.len
            have HML' : Hid (cn.nums.length = ml') := Lib.hid HH.out.mm.len
            by_cases a1 : nl = nl'
            · subst a1
              by_cases a1 : ml = ml'
              · subst a1
                have HSC := Lib.hid (HS.out w1 HB.out.bw)
                clear HS
                go_wp2_with fail
                (with_reducible refine HSC.out.mono ?_)
                rintro e w2 ⟨rfl, q⟩
                have HB := Lib.hid (HB.out.keep q)
                clear q HSC e0 f0 e1 f1 e2 f2 e3 f3 e4 f4 e5 f5 e6 f6 e7 f7 e8 f8 e9 f9 e10 f10 hw1 hb
                have e0 := cell_blk HB.out.b1 0
                have f0 := cell_blk HB.out.b2 0
                have e1 := cell_blk HB.out.b1 1
                have f1 := cell_blk HB.out.b2 1
                have e2 := cell_blk HB.out.b1 2
                have f2 := cell_blk HB.out.b2 2
                have e3 := cell_blk HB.out.b1 3
                have f3 := cell_blk HB.out.b2 3
                have e4 := cell_blk HB.out.b1 4
                have f4 := cell_blk HB.out.b2 4
                have e5 := cell_blk HB.out.b1 5
                have f5 := cell_blk HB.out.b2 5
                have e6 := cell_blk HB.out.b1 6
                have f6 := cell_blk HB.out.b2 6
                have e7 := cell_blk HB.out.b1 7
                have f7 := cell_blk HB.out.b2 7
                have e8 := cell_blk HB.out.b1 8
                have f8 := cell_blk HB.out.b2 8
                have e9 := cell_blk HB.out.b1 9
                have f9 := cell_blk HB.out.b2 9
                have e10 := cell_blk HB.out.b1 10
                have f10 := cell_blk HB.out.b2 10
                cases rx
                · obtain rfl : r = false := by
                    cases r
                    · rfl
                    · exact absurd (HRX.out.2 (HR.out.1 rfl).2.2.2.2) (by decide)
                  go_wp2_with fail
                  go_returns
                  exact ⟨rfl, HB.out.bw⟩
                · have HQ5 := Lib.hid (HRX.out.1 rfl)
                  clear e0 f0 f1 e2 f2 e3 f3 e4 f4 e5 f5 e6 f6 e7 f7 e8 f8 e9 f9 e10 f10
                  go_upto_region 4 with fail
                  clear e1
                  go_loopw [5, 48] (fun s5 ii wr => ∃ j : Nat, j ≤ nl ∧ ii = .int .i64 j ∧ Hid (Bx3 w wr b #[.string wb, .slice an nl nc, .slice am ml mc, .int .i64 lo, .int .i64 hi, .bool gl, .bool gh, .int .u8 z.p.op, .string z.p.nm, .slice z.an z.nn z.nc, .slice z.aa z.p.k z.ac] #[.string wb, .slice an' nl nc', .slice am' ml mc', .int .i64 lo, .int .i64 hi, .bool gl, .bool gh, .int .u8 z'.p.op, .string z'.p.nm, .slice z'.an z'.nn z'.nc, .slice z'.aa z'.p.k z'.ac]) ∧ Hid (cm.names.take j = cn.names.take j)) (fun s5 ii _ => nl - (intOf ii).toNat)
                  case atStart => exact ⟨0, Nat.zero_le _, rfl, HB, Lib.hid rfl⟩
                  case round =>
                    clear HB
                    obtain ⟨j, hj, rfl, HB, HE⟩ := hrel
                    have e1 := cell_blk HB.out.b1 1
                    have f1 := cell_blk HB.out.b2 1
                    have e2 := cell_blk HB.out.b1 2
                    have f2 := cell_blk HB.out.b2 2
                    have j0 : (0 : Int) ≤ (j : Int) := by omega
                    have n9 : (nl : Int) ≤ 9223372036854775807 := by have a := HG.out.nn.le; have b := HG.out.nn.top; dsimp only at a b; omega
                    by_cases jlt : j < nl
                    · have j1 : (j : Int) < (nl : Int) := by omega
                      obtain ⟨nb, np, ha, hc⟩ := HG.out.nn.here (by dsimp only; omega)
                      obtain ⟨mb, mp, ha', hc'⟩ := HH.out.nn.here (by dsimp only; omega)
                      have hjn : j < cm.names.length := by have := HNL.out; omega
                      have hjm : j < cn.names.length := by have := HNL'.out; omega
                      dsimp only at ha ha'
                      obtain ⟨sx, hsx, c1⟩ : ∃ s : ByteArray, s = ⟨(cm.names[j]).toArray⟩ ∧ wr.cell? ⟨nb, np + j, none⟩ = some (.string s) := ⟨_, rfl, by have := cell_keep (hc j (by simpa using hjn)) HB.out.bw; simpa using this⟩
                      obtain ⟨sy, hsy, d1⟩ : ∃ s : ByteArray, s = ⟨(cn.names[j]).toArray⟩ ∧ wr.cell? ⟨mb, mp + j, none⟩ = some (.string s) := ⟨_, rfl, by have := cell_keep (hc' j (by simpa using hjm)) HB.out.bw; simpa using this⟩
                      have HX : Hid (sx = sy ↔ cm.names[j] = cn.names[j]) := Lib.hid (by rw [← nm_inj, hsx, hsy, word_eq])
                      clear hsx hsy
                      clear hc hc'
                      subst ha
                      subst ha'
                      by_cases sq : sx = sy
                      · obtain rfl := sq
                        have HE2 : Hid (cm.names.take (j + 1) = cn.names.take (j + 1)) := Lib.hid (by rw [List.take_succ_eq_append_getElem hjn, List.take_succ_eq_append_getElem hjm, HE.out, HX.out.1 rfl])
                        clear HX HE
                        go_upto_region 6 with fail
                        go_quiet (fail)
                        go_wp2_with fail
                        go_roundw
                        case rel => exact ⟨j + 1, by omega, by go_num, Lib.hid (HB.out.keep (below_drewN (Below.refl _ wr) nq)), HE2⟩
                        case measure => simp [intOf]; omega
                      · have sq2 : (sx.toList == sy.toList) = false := by simpa using fun e => sq ((nm_inj _ _).1 e)
                        obtain rfl : r = false := by
                          cases r
                          · rfl
                          · exact absurd (HX.out.2 (by have e := (HR.out.1 rfl).2.1; simp only [e])) sq
                        clear sq HX HE
                        go_upto_region 6 with fail
                        go_quiet (fail)
                        go_wp2_with fail
                        go_returns
                        exact ⟨rfl, below_drewN HB.out.bw nq⟩
                    · obtain rfl : nl = j := by omega
                      have HF : Hid (cm.names = cn.names) := Lib.hid (by
                        have a := HE.out
                        rw [List.take_of_length_le (by have := HNL.out; omega), List.take_of_length_le (by have := HNL'.out; omega)] at a
                        exact a)
                      clear jlt hj HE
                      have HN := HF
                      clear HF
                      go_upto_region 10 with fail
                      go_loopw [6, 66] (fun s6 ii wr => ∃ j : Nat, j ≤ ml ∧ ii = .int .i64 j ∧ Hid (Bx3 w wr b #[.string wb, .slice an nl nc, .slice am ml mc, .int .i64 lo, .int .i64 hi, .bool gl, .bool gh, .int .u8 z.p.op, .string z.p.nm, .slice z.an z.nn z.nc, .slice z.aa z.p.k z.ac] #[.string wb, .slice an' nl nc', .slice am' ml mc', .int .i64 lo, .int .i64 hi, .bool gl, .bool gh, .int .u8 z'.p.op, .string z'.p.nm, .slice z'.an z'.nn z'.nc, .slice z'.aa z'.p.k z'.ac]) ∧ Hid (cm.nums.take j = cn.nums.take j)) (fun s6 ii _ => ml - (intOf ii).toNat)
                      case atStart => exact ⟨0, Nat.zero_le _, rfl, HB, Lib.hid rfl⟩
                      case round =>
                        clear HB
                        obtain ⟨j, hj, rfl, HB, HE⟩ := hrel
                        have e1 := cell_blk HB.out.b1 1
                        have f1 := cell_blk HB.out.b2 1
                        have e2 := cell_blk HB.out.b1 2
                        have f2 := cell_blk HB.out.b2 2
                        have j0 : (0 : Int) ≤ (j : Int) := by omega
                        have n9 : (ml : Int) ≤ 9223372036854775807 := by have a := HG.out.mm.le; have b := HG.out.mm.top; dsimp only at a b; omega
                        by_cases jlt : j < ml
                        · have j1 : (j : Int) < (ml : Int) := by omega
                          obtain ⟨nb, np, ha, hc⟩ := HG.out.mm.here (by dsimp only; omega)
                          obtain ⟨mb, mp, ha', hc'⟩ := HH.out.mm.here (by dsimp only; omega)
                          have hjn : j < cm.nums.length := by have := HML.out; omega
                          have hjm : j < cn.nums.length := by have := HML'.out; omega
                          dsimp only at ha ha'
                          obtain ⟨sx, hsx, c1⟩ : ∃ s : Int, s = cm.nums[j] ∧ wr.cell? ⟨nb, np + j, none⟩ = some (.int .i64 s) := ⟨_, rfl, cell_keep (hc j hjn).1 HB.out.bw⟩
                          obtain ⟨sy, hsy, d1⟩ : ∃ s : Int, s = cn.nums[j] ∧ wr.cell? ⟨mb, mp + j, none⟩ = some (.int .i64 s) := ⟨_, rfl, cell_keep (hc' j hjm).1 HB.out.bw⟩
                          have HX : Hid (sx = sy ↔ cm.nums[j] = cn.nums[j]) := Lib.hid (by rw [hsx, hsy])
                          clear hsx hsy
                          clear hc hc'
                          subst ha
                          subst ha'
                          by_cases sq : sx = sy
                          · obtain rfl := sq
                            have HE2 : Hid (cm.nums.take (j + 1) = cn.nums.take (j + 1)) := Lib.hid (by rw [List.take_succ_eq_append_getElem hjn, List.take_succ_eq_append_getElem hjm, HE.out, HX.out.1 rfl])
                            clear HX HE
                            go_upto_region 12 with fail
                            go_quiet (fail)
                            go_wp2_with fail
                            go_roundw
                            case rel => exact ⟨j + 1, by omega, by go_num, Lib.hid (HB.out.keep (below_drewN (Below.refl _ wr) nq)), HE2⟩
                            case measure => simp [intOf]; omega
                          · have sq2 : (sx == sy) = false := by simpa using sq
                            obtain rfl : r = false := by
                              cases r
                              · rfl
                              · exact absurd (HX.out.2 (by have e := (HR.out.1 rfl).2.2.1; simp only [e])) sq
                            clear sq HX HE
                            go_upto_region 12 with fail
                            go_quiet (fail)
                            go_wp2_with fail
                            go_returns
                            exact ⟨rfl, below_drewN HB.out.bw nq⟩
                        · obtain rfl : ml = j := by omega
                          have HF : Hid (cm.nums = cn.nums) := Lib.hid (by
                            have a := HE.out
                            rw [List.take_of_length_le (by have := HML.out; omega), List.take_of_length_le (by have := HML'.out; omega)] at a
                            exact a)
                          clear jlt hj HE
                          obtain rfl : r = true := HR.out.2 ⟨HQ1.out, HN.out, HF.out, HQ2.out, HQ5.out⟩
                          go_wp2_with fail
                          go_returns
                          exact ⟨rfl, HB.out.bw⟩
              · have c1 : ((ml : Int) != (ml' : Int)) = true := by rw [bne_iff_ne]; omega
                obtain rfl : r = false := by
                  cases r
                  · rfl
                  · exact absurd (by rw [← HML.out, ← HML'.out, (HR.out.1 rfl).2.2.1]) a1
                go_wp2_with fail
                go_returns
                exact ⟨rfl, HB.out.bw⟩
            · have c1 : ((nl : Int) != (nl' : Int)) = true := by rw [bne_iff_ne]; omega
              obtain rfl : r = false := by
                cases r
                · rfl
                · exact absurd (by rw [← HNL.out, ← HNL'.out, (HR.out.1 rfl).2.1]) a1
              go_wp2_with fail
              go_returns
              exact ⟨rfl, HB.out.bw⟩
          · have c1 : (gh == gh') = false := by simpa using a1
            obtain rfl : r = false := by
              cases r
              · rfl
              · have a := HG.out.rg; have b := HH.out.rg; rw [(HR.out.1 rfl).2.2.2.1, b] at a; exact absurd (congrArg Lx.Rg.hh a).symm a1
            go_wp2_with fail
            go_returns
            exact ⟨rfl, HB.out.bw⟩
        · have c1 : (gl == gl') = false := by simpa using a1
          obtain rfl : r = false := by
            cases r
            · rfl
            · have a := HG.out.rg; have b := HH.out.rg; rw [(HR.out.1 rfl).2.2.2.1, b] at a; exact absurd (congrArg Lx.Rg.hl a).symm a1
          go_wp2_with fail
          go_returns
          exact ⟨rfl, HB.out.bw⟩
      · have c1 : (hi == hi') = false := by simpa using a1
        obtain rfl : r = false := by
          cases r
          · rfl
          · have a := HG.out.rg; have b := HH.out.rg; rw [(HR.out.1 rfl).2.2.2.1, b] at a; exact absurd (congrArg Lx.Rg.high a).symm a1
        go_wp2_with fail
        go_returns
        exact ⟨rfl, HB.out.bw⟩
    · have c1 : (lo == lo') = false := by simpa using a1
      obtain rfl : r = false := by
        cases r
        · rfl
        · have a := HG.out.rg; have b := HH.out.rg; rw [(HR.out.1 rfl).2.2.2.1, b] at a; exact absurd (congrArg Lx.Rg.low a).symm a1
      go_wp2_with fail
      go_returns
      exact ⟨rfl, HB.out.bw⟩
  · have q1b : (wb.toList == wb'.toList) = false := by simpa using q1
    obtain rfl : r = false := by
      cases r
      · rfl
      · refine absurd ?_ q1
        have a : wb = _ := HG.out.wd
        have b : wb' = _ := HH.out.wd
        rw [a, b, word_eq]; exact (HR.out.1 rfl).1
    go_wp2_with fail
    go_returns
    exact ⟨rfl, HB.out.bw⟩
end Go.Proofs.YtimjendkpjojoaaGreatDoor
