/- X9 in one. -/
import Derived.Test.YtimjendkpjojoaaGreatDoorKq
namespace Go.Proofs.YtimjendkpjojoaaGreatDoor
set_option linter.unusedVariables false
set_option linter.unusedSimpArgs false
open Go.ChangeShapes Go.WideShapes Go.ChangeAt Go.RowKit

theorem below_drewN {B : Nat} {a w : World} (h : Below B a w) : ∀ n, Below B a (w.drewN n)
  | 0 => h
  | n + 1 => (below_drewN h n).drew
structure Bp (w0 w : World) (b : Nat) (cs : Array Value) : Prop where
  bw : Below w0.heap.size w0 w
  box : w.heap[b]? = some (.cells cs 42 (0, 0))
theorem Bp.keep {w0 w w' : World} {b : Nat} {cs : Array Value} (h : Bp w0 w b cs) (q : Below w.heap.size w w') : Bp w0 w' b cs := ⟨h.bw.trans (q.mono h.bw.size), blk_below h.box q⟩
theorem cnt_shape {sh : List UInt8} (h : sh ∈ Lx.shapesL) : Lib.countByte sh 110 = (Lx.cN sh : Int) ∧ Lib.countByte sh 105 = (Lx.cI sh : Int) ∧ (decide (0 ≤ Lib.indexByte sh 101) = decide (101 ∈ sh)) ∧ (decide (0 ≤ Lib.indexByte sh 114) = decide (114 ∈ sh)) := by
  have : ∀ s ∈ Lx.shapesL, Lib.countByte s 110 = (Lx.cN s : Int) ∧ Lib.countByte s 105 = (Lx.cI s : Int) ∧ (decide (0 ≤ Lib.indexByte s 101) = decide (101 ∈ s)) ∧ (decide (0 ≤ Lib.indexByte s 114) = decide (114 ∈ s)) := by decide
  exact this sh h
theorem leaf_right (s : ByteArray) : RightL (tour (Lx.leaf s.data.toList) 1) ↔ RName s := by
  have e : tour (Lx.leaf s.data.toList) 1 = [((⟨0, s, [], 0⟩ : Pt), 1)] := by simp [Lx.leaf, tour, tours]
  rw [e]
  unfold RightL
  constructor
  · intro h
    have := (h.2 _ List.mem_cons_self).2.name
    rwa [if_pos rfl] at this
  · intro h
    refine ⟨by simp, fun x hx => ?_⟩
    simp only [List.mem_cons, List.not_mem_nil, or_false] at hx
    subst hx
    exact ⟨(show (1 : Int) ≤ 40 by decide), ⟨(show (0 : Int) ≤ 12 by decide), rfl, rfl, by rw [if_pos rfl]; exact h⟩⟩
set_option maxRecDepth 20000 in
set_option maxHeartbeats 4000000 in
theorem pright_any (w : World) (D : Nat) (cm : Lx.Cm) (g : Cg) (hT : Tabn w) (hg : CG w D cm g) (hnm : ∀ x ∈ cm.names, x.length ≤ maxLen) (r : Bool) (hr : r = true ↔ RightC cm) :
    Calls Tryz.prog 13 #[.agg #[.string g.wb, .slice g.an g.nl g.nc, .slice g.am g.ml g.mc, .int .i64 g.lo, .int .i64 g.hi, .bool g.hl, .bool g.hh, .int .u8 g.z.p.op, .string g.z.p.nm, .slice g.z.an g.z.nn g.z.nc, .slice g.z.aa g.z.p.k g.z.ac]] w fun e w' => e = .returned (.bool r) ∧ Below w.heap.size w w' := by
  have HR := Lib.hid hr
  obtain ⟨wb, an, nl, nc, am, ml, mc, lo, hi, hl, hh, z⟩ := g
  have HNM := Lib.hid hnm
  clear hnm
  have HG := Lib.hid hg
  dsimp only at hg ⊢
  have HT := Lib.hid hT
  obtain ⟨b, hb⟩ : ∃ y, w.heap.size = y := ⟨_, rfl⟩
  obtain ⟨w1, hw1⟩ : ∃ y, w.alloc (.cells #[.string wb, .slice an nl nc, .slice am ml mc, .int .i64 lo, .int .i64 hi, .bool hl, .bool hh, .int .u8 z.p.op, .string z.p.nm, .slice z.an z.nn z.nc, .slice z.aa z.p.k z.ac] 42) = y := ⟨_, rfl⟩
  have HX : Hid (Bp w w1 b #[.string wb, .slice an nl nc, .slice am ml mc, .int .i64 lo, .int .i64 hi, .bool hl, .bool hh, .int .u8 z.p.op, .string z.p.nm, .slice z.an z.nn z.nc, .slice z.aa z.p.k z.ac]) := Lib.hid ⟨by rw [← hw1]; exact (Below.refl _ w).alloc (Nat.le_refl _) _, by rw [← hw1, ← hb, al_new]⟩
  have HS := Lib.hid (fun W => shape_any wb W)
  rw [show wb.data.toList = cm.word by have := hg.wd; dsimp only at this; rw [this]] at HS
  have e0 := cell_blk HX.out.box 0
  have e1 := cell_blk HX.out.box 1
  have e2 := cell_blk HX.out.box 2
  have n1 := hg.nn.len
  dsimp only at n1
  rw [List.length_map] at n1
  have m1 := hg.mm.len
  dsimp only at m1
  have n2 := hg.nn.le
  have n3 := hg.nn.top
  have m2 := hg.mm.le
  have m3 := hg.mm.top
  dsimp only at n2 n3 m2 m3
  have n0 : (0 : Int) ≤ (nl : Int) := by omega
  have n9 : (nl : Int) ≤ 9223372036854775807 := by omega
  have m0 : (0 : Int) ≤ (ml : Int) := by omega
  have m9 : (ml : Int) ≤ 9223372036854775807 := by omega
  cases hs : Lx.shape cm.word with
  | none =>
    rw [hs] at HS
    unfold shV at HS
    obtain rfl : r = false := by
      cases r with
      | false => rfl
      | true => have := (hr.1 rfl).ok; rw [hs] at this; cases this
    clear hr hg hT HR hs n1 m1 n2 n3 m2 m3
    go_enter Tryz.func13, Tryz.ntmps13
    go_upto_region 1 with fail
    clear hw1 hb
    go_wp2_with fail
    (with_reducible refine (HS.out w1).mono ?_)
    rintro e w2 ⟨rfl, rfl⟩
    go_upto_region 2 with fail
    go_quiet (fail)
    go_wp2_with fail
    go_returns
    exact ⟨rfl, below_drewN HX.out.bw _⟩
  | some sh =>
    rw [hs] at HS
    unfold shV at HS
    dsimp only at HS
    have hin := Lx.shape_in hs
    have hcs := cnt_shape hin
    have HCN : Hid (∀ W, Calls Tryz.prog 33 #[.string ⟨sh.toArray⟩, .string ⟨#[110]⟩] W fun e w' => e = .returned (.int .i64 (Lx.cN sh : Int)) ∧ w' = W) := Lib.hid (fun W => (Tryz.strings_Count_one ⟨sh.toArray⟩ 110 W).mono (by rintro e w' ⟨rfl, rfl⟩; exact ⟨by rw [← hcs.1], rfl⟩))
    have HCI : Hid (∀ W, Calls Tryz.prog 33 #[.string ⟨sh.toArray⟩, .string ⟨#[105]⟩] W fun e w' => e = .returned (.int .i64 (Lx.cI sh : Int)) ∧ w' = W) := Lib.hid (fun W => (Tryz.strings_Count_one ⟨sh.toArray⟩ 105 W).mono (by rintro e w' ⟨rfl, rfl⟩; exact ⟨by rw [← hcs.2.1], rfl⟩))
    have HIE : Hid (∀ W, Calls Tryz.prog 35 #[.string ⟨sh.toArray⟩, .string ⟨#[101]⟩] W fun e w' => e = .returned (.bool (decide (101 ∈ sh))) ∧ Below W.heap.size W w') := Lib.hid (fun W => (Tryz.strings_Contains_one ⟨sh.toArray⟩ 101 W).mono (by rintro e w' ⟨rfl, rfl⟩; exact ⟨by rw [← hcs.2.2.1], Below.refl _ _⟩))
    have HIR : Hid (∀ W, Calls Tryz.prog 35 #[.string ⟨sh.toArray⟩, .string ⟨#[114]⟩] W fun e w' => e = .returned (.bool (decide (114 ∈ sh))) ∧ Below W.heap.size W w') := Lib.hid (fun W => (Tryz.strings_Contains_one ⟨sh.toArray⟩ 114 W).mono (by rintro e w' ⟨rfl, rfl⟩; exact ⟨by rw [← hcs.2.2.2], Below.refl _ _⟩))
    have HSO : Hid ((Lx.shape cm.word).getD [] = sh) := Lib.hid (by rw [hs]; rfl)
    have HSI : Hid ((Lx.shape cm.word).isSome = true) := Lib.hid (by rw [hs]; rfl)
    obtain ⟨sb, hsb⟩ : ∃ y : ByteArray, ⟨sh.toArray⟩ = y := ⟨_, rfl⟩
    rw [hsb] at HS HCN HCI HIE HIR
    obtain ⟨cN, hcN⟩ : ∃ y, Lx.cN sh = y := ⟨_, rfl⟩
    obtain ⟨cI, hcI⟩ : ∃ y, Lx.cI sh = y := ⟨_, rfl⟩
    have HcN := Lib.hid hcN
    have HcI := Lib.hid hcI
    rw [hcN] at HCN
    rw [hcI] at HCI
    have HN1 := Lib.hid n1
    have HM1 := Lib.hid m1
    by_cases a1 : nl = cN
    · have a2 : ((nl : Int) != (cN : Int)) = false := by simp [a1]
      by_cases b1 : ml = cI
      · have b2 : ((ml : Int) != (cI : Int)) = false := by simp [b1]
        have HNN := Lib.hid a1
        have HMM := Lib.hid b1
        clear hr hg hT hs n1 m1 n2 n3 m2 m3 hcs hin hsb hcN hcI a1 b1
        go_enter Tryz.func13, Tryz.ntmps13
        go_upto_region 1 with fail
        clear hw1 hb
        go_wp2_with fail
        (with_reducible refine (HS.out w1).mono ?_)
        rintro e w2 ⟨rfl, rfl⟩
        go_upto_region 2 with fail
        go_quiet ((first | (go_at_call 33; with_reducible exact Calls.quiet_of_same (HCN.out _)) | (go_at_call 33; with_reducible exact Calls.quiet_of_same (HCI.out _)) | fail))
        have HX := Lib.hid (HX.out.keep (below_drewN (Below.refl _ w1) nq))
        obtain ⟨w2, hw2⟩ : ∃ y, w1.drewN nq = y := ⟨_, rfl⟩
        rw [hw2] at HX ⊢
        clear hw2 HS HCN HCI a2 b2 e0 e1 e2
        have e1 := cell_blk HX.out.box 1
        go_upto_region 5 with fail
        clear e1
        go_loopw [6, 34] (fun s6 ii wr => ∃ j : Nat, j ≤ nl ∧ ii = .int .i64 j ∧ Hid (∀ i (h : i < cm.names.length), i < j → RName ⟨cm.names[i].toArray⟩) ∧ Hid (Bp w wr b #[.string wb, .slice an nl nc, .slice am ml mc, .int .i64 lo, .int .i64 hi, .bool hl, .bool hh, .int .u8 z.p.op, .string z.p.nm, .slice z.an z.nn z.nc, .slice z.aa z.p.k z.ac])) (fun s6 ii _ => nl - (intOf ii).toNat)
        case atStart => exact ⟨0, Nat.zero_le _, rfl, Lib.hid (fun i h q => absurd q (Nat.not_lt_zero i)), HX⟩
        case round =>
          clear HX
          obtain ⟨j, hj, rfl, HAL, HX⟩ := hrel
          have j0 : (0 : Int) ≤ (j : Int) := by omega
          by_cases jlt : j < nl
          · have j1 : (j : Int) < (nl : Int) := by omega
            obtain ⟨nb, np, han, hc⟩ := HG.out.nn.here (by dsimp only; omega)
            dsimp only at han
            have jn : j < cm.names.length := by have := HN1.out; omega
            have c1 := cell_keep (hc j (by simpa using jn)) HX.out.bw
            rw [List.getElem_map] at c1
            obtain ⟨rn, hrn⟩ : ∃ rn : Bool, rn = true ↔ RName ⟨cm.names[j].toArray⟩ := by classical exact ⟨decide _, decide_eq_true_iff⟩
            have HRT := Lib.hid (right_any 1 _ (tour (Lx.leaf cm.names[j])) wr (HT.out.keep HX.out.bw) (ex_leaf' wr cm.names[j] (HNM.out _ (List.getElem_mem jn))) rn (by
              rw [hrn]
              have := leaf_right ⟨cm.names[j].toArray⟩
              rw [show (⟨cm.names[j].toArray⟩ : ByteArray).data.toList = cm.names[j] by simp] at this
              exact this.symm))
            have HRN := Lib.hid hrn
            obtain ⟨nm, hnm⟩ : ∃ y : ByteArray, ⟨cm.names[j].toArray⟩ = y := ⟨_, rfl⟩
            rw [hnm] at c1 HRT HRN
            have HNE := Lib.hid hnm
            subst han
            clear hc hrn hnm
            go_wp2_with fail
            (with_reducible refine HRT.out.mono ?_)
            rintro e w3 ⟨rfl, q⟩
            have HX := Lib.hid (HX.out.keep q)
            clear q HRT c1
            cases rn
            · have HRF : Hid (r = false) := Lib.hid (by
                cases r with
                | false => rfl
                | true =>
                  have k := (HR.out.1 rfl).nam _ (List.getElem_mem jn)
                  rw [HNE.out] at k
                  exact absurd (HRN.out.2 k) (by decide))
              go_wp2_with fail
              go_returns
              exact ⟨xret_bool HRF.out.symm, HX.out.bw⟩
            · have HAL2 : Hid (∀ i (h : i < cm.names.length), i < j + 1 → RName ⟨cm.names[i].toArray⟩) := Lib.hid (fun i h q => by
                by_cases e : i = j
                · subst e; rw [HNE.out]; exact HRN.out.1 rfl
                · exact HAL.out i h (by omega))
              clear HAL
              go_wp2_with fail
              go_roundw
              case rel => exact ⟨j + 1, by omega, by go_num, HAL2, HX⟩
              case measure => simp [intOf]; omega
          · have j1 : ¬ (j : Int) < (nl : Int) := by omega
            have HALL : Hid (∀ x ∈ cm.names, RName ⟨x.toArray⟩) := Lib.hid (fun x hx => by
              obtain ⟨i, hi, rfl⟩ := List.getElem_of_mem hx
              exact HAL.out i hi (by have := HN1.out; omega))
            obtain ⟨kx, hkx⟩ : ∃ k : Bool, k = true ↔ if decide (101 ∈ sh) = true then RightL (tour cm.ex 1) else cm.ex = Lx.leaf [] := by classical exact ⟨decide _, decide_eq_true_iff⟩
            obtain ⟨kr, hkr⟩ : ∃ k : Bool, k = true ↔ if decide (114 ∈ sh) = true then (cm.rg.hl = false → cm.rg.low = 0) ∧ (cm.rg.hh = false → cm.rg.high = 0) else cm.rg = ⟨0, 0, false, false⟩ := by classical exact ⟨decide _, decide_eq_true_iff⟩
            have HRR : Hid (r = (kx && kr)) := Lib.hid (by
              have e : (kx && kr) = true ↔ RightC cm := by
                rw [Bool.and_eq_true, hkx, hkr]
                constructor
                · rintro ⟨h1, h2⟩
                  refine ⟨HSI.out, HALL.out, by rw [HSO.out, HcN.out, HN1.out]; exact HNN.out, by rw [HSO.out, HcI.out, HM1.out]; exact HMM.out, ?_, ?_, ?_, ?_, ?_⟩
                  · intro q
                    by_cases c : 114 ∈ sh
                    · rw [if_pos (decide_eq_true c)] at h2; exact h2.1 q
                    · rw [if_neg (by simpa using c)] at h2; rw [h2]
                  · intro q
                    by_cases c : 114 ∈ sh
                    · rw [if_pos (decide_eq_true c)] at h2; exact h2.2 q
                    · rw [if_neg (by simpa using c)] at h2; rw [h2]
                  · rw [HSO.out]; intro c; rw [if_neg (by simpa using c)] at h2; exact h2
                  · rw [HSO.out]; intro c; rw [if_neg (by simpa using c)] at h1; exact h1
                  · rw [HSO.out]; intro c; rw [if_pos (decide_eq_true c)] at h1; exact h1
                · intro h
                  have x0 := h.ex0; have x1 := h.ex1; have x2 := h.rg
                  rw [HSO.out] at x0 x1 x2
                  constructor
                  · by_cases c : 101 ∈ sh
                    · rw [if_pos (decide_eq_true c)]; exact x1 c
                    · rw [if_neg (by simpa using c)]; exact x0 c
                  · by_cases c : 114 ∈ sh
                    · rw [if_pos (decide_eq_true c)]; exact ⟨h.lo, h.hi⟩
                    · rw [if_neg (by simpa using c)]; exact x2 c
              have := HR.out
              cases r <;> cases q : (kx && kr) <;> simp_all)
            have HRG : Hid (cm.rg = ⟨lo, hi, hl, hh⟩) := Lib.hid HG.out.rg
            have HK28 : Hid (∀ W (q : Below w.heap.size w W), Calls Tryz.prog 34 #[.agg #[.int .u8 z.p.op, .string z.p.nm, .slice z.an z.nn z.nc, .slice z.aa z.p.k z.ac], .bool (decide (101 ∈ sh))] W fun e w' => e = .returned (.bool kx) ∧ Below W.heap.size W w') := Lib.hid (fun W q => prexpr_any D _ cm.ex _ W (HT.out.keep q) (HG.out.ex.keep q) kx hkx)
            have HK30 : Hid (∀ W, Calls Tryz.prog 36 #[.agg #[.int .i64 lo, .int .i64 hi, .bool hl, .bool hh], .bool (decide (114 ∈ sh))] W fun e w' => e = .returned (.bool kr) ∧ Below W.heap.size W w') := Lib.hid (fun W => prange_any ⟨lo, hi, hl, hh⟩ _ W kr (by rw [hkr, HRG.out]))
            obtain ⟨be, hbe⟩ : ∃ y, decide (101 ∈ sh) = y := ⟨_, rfl⟩
            obtain ⟨br, hbr⟩ : ∃ y, decide (114 ∈ sh) = y := ⟨_, rfl⟩
            rw [hbe] at HIE HK28
            rw [hbr] at HIR HK30
            clear hkx hkr hbe hbr HAL HALL HR HSO HSI HcN HcI HN1 HM1 HNN HMM HRG
            have e3 := cell_blk HX.out.box 3
            have e4 := cell_blk HX.out.box 4
            have e5 := cell_blk HX.out.box 5
            have e6 := cell_blk HX.out.box 6
            have e7 := cell_blk HX.out.box 7
            have e8 := cell_blk HX.out.box 8
            have e9 := cell_blk HX.out.box 9
            have e10 := cell_blk HX.out.box 10
            go_upto_region 10 with fail
            cases kx
            · skip
              refine wp_region_held_drew (S := (fun W => W.cell? ⟨b, 3, none⟩ = some (.int .i64 lo) ∧ W.cell? ⟨b, 4, none⟩ = some (.int .i64 hi) ∧ W.cell? ⟨b, 5, none⟩ = some (.bool hl) ∧ W.cell? ⟨b, 6, none⟩ = some (.bool hh) ∧ W.cell? ⟨b, 7, none⟩ = some (.int .u8 z.p.op) ∧ W.cell? ⟨b, 8, none⟩ = some (.string z.p.nm) ∧ W.cell? ⟨b, 9, none⟩ = some (.slice z.an z.nn z.nc) ∧ W.cell? ⟨b, 10, none⟩ = some (.slice z.aa z.p.k z.ac) ∧ Hid (Bp w W b #[.string wb, .slice an nl nc, .slice am ml mc, .int .i64 lo, .int .i64 hi, .bool hl, .bool hh, .int .u8 z.p.op, .string z.p.nm, .slice z.an z.nn z.nc, .slice z.aa z.p.k z.ac]))) (by kernel_rfl) ?_ (fun hHeld => ?_)
              · exact ⟨cell_blk (HX.out.keep (Below.refl _ _).drew).box 3, cell_blk (HX.out.keep (Below.refl _ _).drew).box 4, cell_blk (HX.out.keep (Below.refl _ _).drew).box 5, cell_blk (HX.out.keep (Below.refl _ _).drew).box 6, cell_blk (HX.out.keep (Below.refl _ _).drew).box 7, cell_blk (HX.out.keep (Below.refl _ _).drew).box 8, cell_blk (HX.out.keep (Below.refl _ _).drew).box 9, cell_blk (HX.out.keep (Below.refl _ _).drew).box 10, Lib.hid (HX.out.keep (Below.refl _ _).drew)⟩
              refine wpAnyH_take (i := 0) (oi := _) (v := ?_) rfl (by kernel_rfl) (by kernel_rfl) (by kernel_rfl) (fun _ _ _ h => h) (Or.inl ⟨by kernel_rfl, ?_⟩) (by assumption) ?_
              rotate_left 1
              focus (intro wq hSw; (try dsimp only at hSw); obtain ⟨s0, s1, s2, s3, s4, s5, s6, s7, s8⟩ := hSw; go_simp; (try with_reducible rfl); done)
              try simp only [List.getElem_toArray, List.getElem_cons_zero, List.getElem_cons_succ, Act.put, List.setIfInBounds_toArray, List.set_cons_zero, List.set_cons_succ]
              refine wpAnyH_take (i := 1) (oi := _) (v := ?_) rfl (by kernel_rfl) (by kernel_rfl) (by kernel_rfl) (fun _ _ _ h => h) (Or.inl ⟨by kernel_rfl, ?_⟩) (by assumption) ?_
              rotate_left 1
              focus (intro wq hSw; (try dsimp only at hSw); obtain ⟨s0, s1, s2, s3, s4, s5, s6, s7, s8⟩ := hSw; go_simp; (try with_reducible rfl); done)
              try simp only [List.getElem_toArray, List.getElem_cons_zero, List.getElem_cons_succ, Act.put, List.setIfInBounds_toArray, List.set_cons_zero, List.set_cons_succ]
              refine wpAnyH_take (i := 2) (oi := _) (v := ?_) rfl (by kernel_rfl) (by kernel_rfl) (by kernel_rfl) (fun _ _ _ h => h) (Or.inl ⟨by kernel_rfl, ?_⟩) (by assumption) ?_
              rotate_left 1
              focus (intro wq hSw; (try dsimp only at hSw); obtain ⟨s0, s1, s2, s3, s4, s5, s6, s7, s8⟩ := hSw; go_simp; (try with_reducible rfl); done)
              try simp only [List.getElem_toArray, List.getElem_cons_zero, List.getElem_cons_succ, Act.put, List.setIfInBounds_toArray, List.set_cons_zero, List.set_cons_succ]
              refine wpAnyH_ready (rs := [3]) (by kernel_rfl) (by simp) ?_
              refine AllReadyH.cons (o := _) rfl (fun K hK => ?_) AllReadyH.nil
              rw [if_pos (by kernel_rfl)]
              go_simp
              (go_at_call 35; (with_reducible refine (HIE.out _).mono ?_); rintro e wa ⟨rfl, qq⟩)
              first | refine hK.out _ _ ?_ (fun hHeld => ?_) | (go_wp2_with fail; refine hK.out _ _ ?_ (fun hHeld => ?_))
              · exact ⟨cell_blk (hHeld.2.2.2.2.2.2.2.2.out.keep qq).box 3, cell_blk (hHeld.2.2.2.2.2.2.2.2.out.keep qq).box 4, cell_blk (hHeld.2.2.2.2.2.2.2.2.out.keep qq).box 5, cell_blk (hHeld.2.2.2.2.2.2.2.2.out.keep qq).box 6, cell_blk (hHeld.2.2.2.2.2.2.2.2.out.keep qq).box 7, cell_blk (hHeld.2.2.2.2.2.2.2.2.out.keep qq).box 8, cell_blk (hHeld.2.2.2.2.2.2.2.2.out.keep qq).box 9, cell_blk (hHeld.2.2.2.2.2.2.2.2.out.keep qq).box 10, Lib.hid (hHeld.2.2.2.2.2.2.2.2.out.keep qq)⟩
              clear hK K
              try simp only [List.getElem_toArray, List.getElem_cons_zero, List.getElem_cons_succ, Act.put, List.setIfInBounds_toArray, List.set_cons_zero, List.set_cons_succ]
              refine wpAnyH_ready (rs := [4]) (by kernel_rfl) (by simp) ?_
              refine AllReadyH.cons (o := _) rfl (fun K hK => ?_) AllReadyH.nil
              rw [if_pos (by kernel_rfl)]
              go_simp
              (go_at_call 34; (with_reducible refine (HK28.out _ hHeld.2.2.2.2.2.2.2.2.out.bw).mono ?_); rintro e wc ⟨rfl, qq⟩)
              first | refine hK.out _ _ ?_ (fun hHeld => ?_) | (go_wp2_with fail; refine hK.out _ _ ?_ (fun hHeld => ?_))
              · exact ⟨cell_blk (hHeld.2.2.2.2.2.2.2.2.out.keep qq).box 3, cell_blk (hHeld.2.2.2.2.2.2.2.2.out.keep qq).box 4, cell_blk (hHeld.2.2.2.2.2.2.2.2.out.keep qq).box 5, cell_blk (hHeld.2.2.2.2.2.2.2.2.out.keep qq).box 6, cell_blk (hHeld.2.2.2.2.2.2.2.2.out.keep qq).box 7, cell_blk (hHeld.2.2.2.2.2.2.2.2.out.keep qq).box 8, cell_blk (hHeld.2.2.2.2.2.2.2.2.out.keep qq).box 9, cell_blk (hHeld.2.2.2.2.2.2.2.2.out.keep qq).box 10, Lib.hid (hHeld.2.2.2.2.2.2.2.2.out.keep qq)⟩
              clear hK K
              try simp only [List.getElem_toArray, List.getElem_cons_zero, List.getElem_cons_succ, Act.put, List.setIfInBounds_toArray, List.set_cons_zero, List.set_cons_succ]
              refine wpAnyH_take (i := 5) (oi := _) (v := ?_) rfl (by kernel_rfl) (by kernel_rfl) (by kernel_rfl) (fun _ _ _ h => h) (Or.inl ⟨by kernel_rfl, ?_⟩) (by assumption) ?_
              rotate_left 1
              focus (intro wq hSw; (try dsimp only at hSw); obtain ⟨s0, s1, s2, s3, s4, s5, s6, s7, s8⟩ := hSw; go_simp; (try with_reducible rfl); done)
              try simp only [List.getElem_toArray, List.getElem_cons_zero, List.getElem_cons_succ, Act.put, List.setIfInBounds_toArray, List.set_cons_zero, List.set_cons_succ]
              refine wpAnyH_take (i := 6) (oi := _) (v := undef) rfl (by kernel_rfl) (by kernel_rfl) (by kernel_rfl) (fun _ _ _ h => h) (Or.inr ⟨by kernel_rfl, rfl⟩) (by assumption) ?_
              try simp only [List.getElem_toArray, List.getElem_cons_zero, List.getElem_cons_succ, Act.put, List.setIfInBounds_toArray, List.set_cons_zero, List.set_cons_succ]
              refine wpAnyH_take (i := 7) (oi := _) (v := undef) rfl (by kernel_rfl) (by kernel_rfl) (by kernel_rfl) (fun _ _ _ h => h) (Or.inr ⟨by kernel_rfl, rfl⟩) (by assumption) ?_
              try simp only [List.getElem_toArray, List.getElem_cons_zero, List.getElem_cons_succ, Act.put, List.setIfInBounds_toArray, List.set_cons_zero, List.set_cons_succ]
              refine wpAnyH_take (i := 8) (oi := _) (v := undef) rfl (by kernel_rfl) (by kernel_rfl) (by kernel_rfl) (fun _ _ _ h => h) (Or.inr ⟨by kernel_rfl, rfl⟩) (by assumption) ?_
              try simp only [List.getElem_toArray, List.getElem_cons_zero, List.getElem_cons_succ, Act.put, List.setIfInBounds_toArray, List.set_cons_zero, List.set_cons_succ]
              refine wpAnyH_take (i := 9) (oi := _) (v := undef) rfl (by kernel_rfl) (by kernel_rfl) (by kernel_rfl) (fun _ _ _ h => h) (Or.inr ⟨by kernel_rfl, rfl⟩) (by assumption) ?_
              try simp only [List.getElem_toArray, List.getElem_cons_zero, List.getElem_cons_succ, Act.put, List.setIfInBounds_toArray, List.set_cons_zero, List.set_cons_succ]
              refine wpAnyH_take (i := 10) (oi := _) (v := undef) rfl (by kernel_rfl) (by kernel_rfl) (by kernel_rfl) (fun _ _ _ h => h) (Or.inr ⟨by kernel_rfl, rfl⟩) (by assumption) ?_
              try simp only [List.getElem_toArray, List.getElem_cons_zero, List.getElem_cons_succ, Act.put, List.setIfInBounds_toArray, List.set_cons_zero, List.set_cons_succ]
              refine wpAnyH_take (i := 11) (oi := _) (v := ?_) rfl (by kernel_rfl) (by kernel_rfl) (by kernel_rfl) (fun _ _ _ h => h) (Or.inl ⟨by kernel_rfl, ?_⟩) (by assumption) ?_
              rotate_left 1
              focus (intro wq hSw; (try dsimp only at hSw); obtain ⟨s0, s1, s2, s3, s4, s5, s6, s7, s8⟩ := hSw; go_simp; (try with_reducible rfl); done)
              try simp only [List.getElem_toArray, List.getElem_cons_zero, List.getElem_cons_succ, Act.put, List.setIfInBounds_toArray, List.set_cons_zero, List.set_cons_succ]
              refine wpAnyH_take (i := 12) (oi := _) (v := ?_) rfl (by kernel_rfl) (by kernel_rfl) (by kernel_rfl) (fun _ _ _ h => h) (Or.inl ⟨by kernel_rfl, ?_⟩) (by assumption) ?_
              rotate_left 1
              focus (intro wq hSw; (try dsimp only at hSw); obtain ⟨s0, s1, s2, s3, s4, s5, s6, s7, s8⟩ := hSw; go_simp; (try with_reducible rfl); done)
              try simp only [List.getElem_toArray, List.getElem_cons_zero, List.getElem_cons_succ, Act.put, List.setIfInBounds_toArray, List.set_cons_zero, List.set_cons_succ]
              refine wpAnyH_done (by kernel_rfl) ?_ _
              have HE := Lib.hid hHeld.2.2.2.2.2.2.2.2.out.bw
              go_wp2
              go_returns
              exact ⟨xret_bool (by rw [HRR.out]; rfl), HE.out⟩
            · skip
              refine wp_region_held_drew (S := (fun W => W.cell? ⟨b, 3, none⟩ = some (.int .i64 lo) ∧ W.cell? ⟨b, 4, none⟩ = some (.int .i64 hi) ∧ W.cell? ⟨b, 5, none⟩ = some (.bool hl) ∧ W.cell? ⟨b, 6, none⟩ = some (.bool hh) ∧ W.cell? ⟨b, 7, none⟩ = some (.int .u8 z.p.op) ∧ W.cell? ⟨b, 8, none⟩ = some (.string z.p.nm) ∧ W.cell? ⟨b, 9, none⟩ = some (.slice z.an z.nn z.nc) ∧ W.cell? ⟨b, 10, none⟩ = some (.slice z.aa z.p.k z.ac) ∧ Hid (Bp w W b #[.string wb, .slice an nl nc, .slice am ml mc, .int .i64 lo, .int .i64 hi, .bool hl, .bool hh, .int .u8 z.p.op, .string z.p.nm, .slice z.an z.nn z.nc, .slice z.aa z.p.k z.ac]))) (by kernel_rfl) ?_ (fun hHeld => ?_)
              · exact ⟨cell_blk (HX.out.keep (Below.refl _ _).drew).box 3, cell_blk (HX.out.keep (Below.refl _ _).drew).box 4, cell_blk (HX.out.keep (Below.refl _ _).drew).box 5, cell_blk (HX.out.keep (Below.refl _ _).drew).box 6, cell_blk (HX.out.keep (Below.refl _ _).drew).box 7, cell_blk (HX.out.keep (Below.refl _ _).drew).box 8, cell_blk (HX.out.keep (Below.refl _ _).drew).box 9, cell_blk (HX.out.keep (Below.refl _ _).drew).box 10, Lib.hid (HX.out.keep (Below.refl _ _).drew)⟩
              refine wpAnyH_take (i := 0) (oi := _) (v := ?_) rfl (by kernel_rfl) (by kernel_rfl) (by kernel_rfl) (fun _ _ _ h => h) (Or.inl ⟨by kernel_rfl, ?_⟩) (by assumption) ?_
              rotate_left 1
              focus (intro wq hSw; (try dsimp only at hSw); obtain ⟨s0, s1, s2, s3, s4, s5, s6, s7, s8⟩ := hSw; go_simp; (try with_reducible rfl); done)
              try simp only [List.getElem_toArray, List.getElem_cons_zero, List.getElem_cons_succ, Act.put, List.setIfInBounds_toArray, List.set_cons_zero, List.set_cons_succ]
              refine wpAnyH_take (i := 1) (oi := _) (v := ?_) rfl (by kernel_rfl) (by kernel_rfl) (by kernel_rfl) (fun _ _ _ h => h) (Or.inl ⟨by kernel_rfl, ?_⟩) (by assumption) ?_
              rotate_left 1
              focus (intro wq hSw; (try dsimp only at hSw); obtain ⟨s0, s1, s2, s3, s4, s5, s6, s7, s8⟩ := hSw; go_simp; (try with_reducible rfl); done)
              try simp only [List.getElem_toArray, List.getElem_cons_zero, List.getElem_cons_succ, Act.put, List.setIfInBounds_toArray, List.set_cons_zero, List.set_cons_succ]
              refine wpAnyH_take (i := 2) (oi := _) (v := ?_) rfl (by kernel_rfl) (by kernel_rfl) (by kernel_rfl) (fun _ _ _ h => h) (Or.inl ⟨by kernel_rfl, ?_⟩) (by assumption) ?_
              rotate_left 1
              focus (intro wq hSw; (try dsimp only at hSw); obtain ⟨s0, s1, s2, s3, s4, s5, s6, s7, s8⟩ := hSw; go_simp; (try with_reducible rfl); done)
              try simp only [List.getElem_toArray, List.getElem_cons_zero, List.getElem_cons_succ, Act.put, List.setIfInBounds_toArray, List.set_cons_zero, List.set_cons_succ]
              refine wpAnyH_ready (rs := [3]) (by kernel_rfl) (by simp) ?_
              refine AllReadyH.cons (o := _) rfl (fun K hK => ?_) AllReadyH.nil
              rw [if_pos (by kernel_rfl)]
              go_simp
              (go_at_call 35; (with_reducible refine (HIE.out _).mono ?_); rintro e wa ⟨rfl, qq⟩)
              first | refine hK.out _ _ ?_ (fun hHeld => ?_) | (go_wp2_with fail; refine hK.out _ _ ?_ (fun hHeld => ?_))
              · exact ⟨cell_blk (hHeld.2.2.2.2.2.2.2.2.out.keep qq).box 3, cell_blk (hHeld.2.2.2.2.2.2.2.2.out.keep qq).box 4, cell_blk (hHeld.2.2.2.2.2.2.2.2.out.keep qq).box 5, cell_blk (hHeld.2.2.2.2.2.2.2.2.out.keep qq).box 6, cell_blk (hHeld.2.2.2.2.2.2.2.2.out.keep qq).box 7, cell_blk (hHeld.2.2.2.2.2.2.2.2.out.keep qq).box 8, cell_blk (hHeld.2.2.2.2.2.2.2.2.out.keep qq).box 9, cell_blk (hHeld.2.2.2.2.2.2.2.2.out.keep qq).box 10, Lib.hid (hHeld.2.2.2.2.2.2.2.2.out.keep qq)⟩
              clear hK K
              try simp only [List.getElem_toArray, List.getElem_cons_zero, List.getElem_cons_succ, Act.put, List.setIfInBounds_toArray, List.set_cons_zero, List.set_cons_succ]
              refine wpAnyH_ready (rs := [4]) (by kernel_rfl) (by simp) ?_
              refine AllReadyH.cons (o := _) rfl (fun K hK => ?_) AllReadyH.nil
              rw [if_pos (by kernel_rfl)]
              go_simp
              (go_at_call 34; (with_reducible refine (HK28.out _ hHeld.2.2.2.2.2.2.2.2.out.bw).mono ?_); rintro e wc ⟨rfl, qq⟩)
              first | refine hK.out _ _ ?_ (fun hHeld => ?_) | (go_wp2_with fail; refine hK.out _ _ ?_ (fun hHeld => ?_))
              · exact ⟨cell_blk (hHeld.2.2.2.2.2.2.2.2.out.keep qq).box 3, cell_blk (hHeld.2.2.2.2.2.2.2.2.out.keep qq).box 4, cell_blk (hHeld.2.2.2.2.2.2.2.2.out.keep qq).box 5, cell_blk (hHeld.2.2.2.2.2.2.2.2.out.keep qq).box 6, cell_blk (hHeld.2.2.2.2.2.2.2.2.out.keep qq).box 7, cell_blk (hHeld.2.2.2.2.2.2.2.2.out.keep qq).box 8, cell_blk (hHeld.2.2.2.2.2.2.2.2.out.keep qq).box 9, cell_blk (hHeld.2.2.2.2.2.2.2.2.out.keep qq).box 10, Lib.hid (hHeld.2.2.2.2.2.2.2.2.out.keep qq)⟩
              clear hK K
              try simp only [List.getElem_toArray, List.getElem_cons_zero, List.getElem_cons_succ, Act.put, List.setIfInBounds_toArray, List.set_cons_zero, List.set_cons_succ]
              refine wpAnyH_take (i := 5) (oi := _) (v := ?_) rfl (by kernel_rfl) (by kernel_rfl) (by kernel_rfl) (fun _ _ _ h => h) (Or.inl ⟨by kernel_rfl, ?_⟩) (by assumption) ?_
              rotate_left 1
              focus (intro wq hSw; (try dsimp only at hSw); obtain ⟨s0, s1, s2, s3, s4, s5, s6, s7, s8⟩ := hSw; go_simp; (try with_reducible rfl); done)
              try simp only [List.getElem_toArray, List.getElem_cons_zero, List.getElem_cons_succ, Act.put, List.setIfInBounds_toArray, List.set_cons_zero, List.set_cons_succ]
              refine wpAnyH_take (i := 6) (oi := _) (v := ?_) rfl (by kernel_rfl) (by kernel_rfl) (by kernel_rfl) (fun _ _ _ h => h) (Or.inl ⟨by kernel_rfl, ?_⟩) (by assumption) ?_
              rotate_left 1
              focus (intro wq hSw; (try dsimp only at hSw); obtain ⟨s0, s1, s2, s3, s4, s5, s6, s7, s8⟩ := hSw; go_simp; (try with_reducible rfl); done)
              try simp only [List.getElem_toArray, List.getElem_cons_zero, List.getElem_cons_succ, Act.put, List.setIfInBounds_toArray, List.set_cons_zero, List.set_cons_succ]
              refine wpAnyH_take (i := 7) (oi := _) (v := ?_) rfl (by kernel_rfl) (by kernel_rfl) (by kernel_rfl) (fun _ _ _ h => h) (Or.inl ⟨by kernel_rfl, ?_⟩) (by assumption) ?_
              rotate_left 1
              focus (intro wq hSw; (try dsimp only at hSw); obtain ⟨s0, s1, s2, s3, s4, s5, s6, s7, s8⟩ := hSw; go_simp; (try with_reducible rfl); done)
              try simp only [List.getElem_toArray, List.getElem_cons_zero, List.getElem_cons_succ, Act.put, List.setIfInBounds_toArray, List.set_cons_zero, List.set_cons_succ]
              refine wpAnyH_take (i := 8) (oi := _) (v := ?_) rfl (by kernel_rfl) (by kernel_rfl) (by kernel_rfl) (fun _ _ _ h => h) (Or.inl ⟨by kernel_rfl, ?_⟩) (by assumption) ?_
              rotate_left 1
              focus (intro wq hSw; (try dsimp only at hSw); obtain ⟨s0, s1, s2, s3, s4, s5, s6, s7, s8⟩ := hSw; go_simp; (try with_reducible rfl); done)
              try simp only [List.getElem_toArray, List.getElem_cons_zero, List.getElem_cons_succ, Act.put, List.setIfInBounds_toArray, List.set_cons_zero, List.set_cons_succ]
              refine wpAnyH_ready (rs := [9]) (by kernel_rfl) (by simp) ?_
              refine AllReadyH.cons (o := _) rfl (fun K hK => ?_) AllReadyH.nil
              rw [if_pos (by kernel_rfl)]
              go_simp
              (go_at_call 35; (with_reducible refine (HIR.out _).mono ?_); rintro e wd ⟨rfl, qq⟩)
              first | refine hK.out _ _ ?_ (fun hHeld => ?_) | (go_wp2_with fail; refine hK.out _ _ ?_ (fun hHeld => ?_))
              · exact ⟨cell_blk (hHeld.2.2.2.2.2.2.2.2.out.keep qq).box 3, cell_blk (hHeld.2.2.2.2.2.2.2.2.out.keep qq).box 4, cell_blk (hHeld.2.2.2.2.2.2.2.2.out.keep qq).box 5, cell_blk (hHeld.2.2.2.2.2.2.2.2.out.keep qq).box 6, cell_blk (hHeld.2.2.2.2.2.2.2.2.out.keep qq).box 7, cell_blk (hHeld.2.2.2.2.2.2.2.2.out.keep qq).box 8, cell_blk (hHeld.2.2.2.2.2.2.2.2.out.keep qq).box 9, cell_blk (hHeld.2.2.2.2.2.2.2.2.out.keep qq).box 10, Lib.hid (hHeld.2.2.2.2.2.2.2.2.out.keep qq)⟩
              clear hK K
              try simp only [List.getElem_toArray, List.getElem_cons_zero, List.getElem_cons_succ, Act.put, List.setIfInBounds_toArray, List.set_cons_zero, List.set_cons_succ]
              refine wpAnyH_ready (rs := [10]) (by kernel_rfl) (by simp) ?_
              refine AllReadyH.cons (o := _) rfl (fun K hK => ?_) AllReadyH.nil
              rw [if_pos (by kernel_rfl)]
              go_simp
              (go_at_call 36; (with_reducible refine (HK30.out _).mono ?_); rintro e we ⟨rfl, qq⟩)
              first | refine hK.out _ _ ?_ (fun hHeld => ?_) | (go_wp2_with fail; refine hK.out _ _ ?_ (fun hHeld => ?_))
              · exact ⟨cell_blk (hHeld.2.2.2.2.2.2.2.2.out.keep qq).box 3, cell_blk (hHeld.2.2.2.2.2.2.2.2.out.keep qq).box 4, cell_blk (hHeld.2.2.2.2.2.2.2.2.out.keep qq).box 5, cell_blk (hHeld.2.2.2.2.2.2.2.2.out.keep qq).box 6, cell_blk (hHeld.2.2.2.2.2.2.2.2.out.keep qq).box 7, cell_blk (hHeld.2.2.2.2.2.2.2.2.out.keep qq).box 8, cell_blk (hHeld.2.2.2.2.2.2.2.2.out.keep qq).box 9, cell_blk (hHeld.2.2.2.2.2.2.2.2.out.keep qq).box 10, Lib.hid (hHeld.2.2.2.2.2.2.2.2.out.keep qq)⟩
              clear hK K
              try simp only [List.getElem_toArray, List.getElem_cons_zero, List.getElem_cons_succ, Act.put, List.setIfInBounds_toArray, List.set_cons_zero, List.set_cons_succ]
              refine wpAnyH_take (i := 11) (oi := _) (v := ?_) rfl (by kernel_rfl) (by kernel_rfl) (by kernel_rfl) (fun _ _ _ h => h) (Or.inl ⟨by kernel_rfl, ?_⟩) (by assumption) ?_
              rotate_left 1
              focus (intro wq hSw; (try dsimp only at hSw); obtain ⟨s0, s1, s2, s3, s4, s5, s6, s7, s8⟩ := hSw; go_simp; (try with_reducible rfl); done)
              try simp only [List.getElem_toArray, List.getElem_cons_zero, List.getElem_cons_succ, Act.put, List.setIfInBounds_toArray, List.set_cons_zero, List.set_cons_succ]
              refine wpAnyH_take (i := 12) (oi := _) (v := ?_) rfl (by kernel_rfl) (by kernel_rfl) (by kernel_rfl) (fun _ _ _ h => h) (Or.inl ⟨by kernel_rfl, ?_⟩) (by assumption) ?_
              rotate_left 1
              focus (intro wq hSw; (try dsimp only at hSw); obtain ⟨s0, s1, s2, s3, s4, s5, s6, s7, s8⟩ := hSw; go_simp; (try with_reducible rfl); done)
              try simp only [List.getElem_toArray, List.getElem_cons_zero, List.getElem_cons_succ, Act.put, List.setIfInBounds_toArray, List.set_cons_zero, List.set_cons_succ]
              refine wpAnyH_done (by kernel_rfl) ?_ _
              have HE := Lib.hid hHeld.2.2.2.2.2.2.2.2.out.bw
              go_wp2
              go_returns
              exact ⟨xret_bool (by rw [HRR.out]; rfl), HE.out⟩
      · have b2 : ((ml : Int) != (cI : Int)) = true := by simp; omega
        obtain rfl : r = false := by
          cases r with
          | false => rfl
          | true => have := (hr.1 rfl).mm; rw [HSO.out, m1, hcI] at this; exact absurd this b1
        clear hr hg hT HR hs n1 m1 n2 n3 m2 m3 hcs hin hsb hcN hcI a1 b1
        go_enter Tryz.func13, Tryz.ntmps13
        go_upto_region 1 with fail
        clear hw1 hb
        go_wp2_with fail
        (with_reducible refine (HS.out w1).mono ?_)
        rintro e w2 ⟨rfl, rfl⟩
        go_upto_region 2 with fail
        go_quiet ((first | (go_at_call 33; with_reducible exact Calls.quiet_of_same (HCN.out _)) | (go_at_call 33; with_reducible exact Calls.quiet_of_same (HCI.out _)) | fail))
        go_wp2_with fail
        go_returns
        exact ⟨rfl, below_drewN HX.out.bw _⟩
    · have a2 : ((nl : Int) != (cN : Int)) = true := by simp; omega
      obtain rfl : r = false := by
        cases r with
        | false => rfl
        | true => have := (hr.1 rfl).nn; rw [HSO.out, n1, hcN] at this; exact absurd this a1
      clear hr hg hT HR hs n1 m1 n2 n3 m2 m3 hcs hin hsb hcN hcI a1
      go_enter Tryz.func13, Tryz.ntmps13
      go_upto_region 1 with fail
      clear hw1 hb
      go_wp2_with fail
      (with_reducible refine (HS.out w1).mono ?_)
      rintro e w2 ⟨rfl, rfl⟩
      go_upto_region 2 with fail
      go_quiet ((first | (go_at_call 33; with_reducible exact Calls.quiet_of_same (HCN.out _)) | fail))
      go_wp2_with fail
      go_returns
      exact ⟨rfl, below_drewN HX.out.bw _⟩
end Go.Proofs.YtimjendkpjojoaaGreatDoor
