/- Contracts: met, Meets. -/
import Derived.Test.YtaobhhgalkkmaaaV1
namespace Go.Proofs.Ytaobhhgalkkmaaa
set_option linter.unusedVariables false
set_option linter.unusedSimpArgs false
open Go.ChangeShapes Go.WideShapes Go.ChangeAt Go.RowKit
theorem heap_keep {w w' : World} {b : Nat} {o : Obj} (h : w.heap[b]? = some o) (k : Below w.heap.size w w') : w'.heap[b]? = some o := (k.block b (Array.getElem?_eq_some_iff.1 h).1).trans h
theorem met_no {fs : List Fv} {vars : Int} {ts : List Int} {c : Cn} {r : Bool} (h : r = true ↔ Met fs vars ts c) (n : ¬ FitsC vars fs.length c) : false = r := by
  cases r with
  | false => rfl
  | true => exact absurd (h.1 rfl).1 n
theorem met_ways {fs : List Fv} {vars : Int} {ts : List Int} {c : Cn} {F : Fv} {a b i j : Int} {p q : Bool} (fit : FitsC vars fs.length c) (rt : F.Rt) (ok : F.Ok) (hl : F.cs.length = F.cn) (h1 : fs[c.f.toNat]? = some F) (h2 : ts[c.x.toNat]? = some a) (h3 : ts[c.y.toNat]? = some b) (ha : AtIs F a i p) (hb : AtIs F b j q) :
    Met fs vars ts c ↔ p = true ∧ q = true ∧ InRg c.lo c.hi c.hl c.hh (j - i) := by
  constructor
  · rintro ⟨_, F', a', b', i', j', e1, e2, e3, x, y, z⟩
    rw [h1] at e1; rw [h2] at e2; rw [h3] at e3
    cases e1; cases e2; cases e3
    obtain ⟨rfl, rfl⟩ := at_same rt ok hl ha x
    obtain ⟨rfl, rfl⟩ := at_same rt ok hl hb y
    exact ⟨rfl, rfl, z⟩
  · rintro ⟨rfl, rfl, z⟩
    exact ⟨fit, F, a, b, i, j, h1, h2, h3, ha, hb, z⟩
set_option maxRecDepth 8000 in
set_option maxHeartbeats 4000000 in
theorem met_any (n : Nv) (c : Cn) (ao : Option Addr) (m cc : Nat) (ts : List Int) (w : World) (hn : n.At w) (ht : IzAt w ao m cc ts) (hrt : ∀ F ∈ n.fs, F.Rt ∧ F.Ok ∧ F.cn ≤ 10000) (hown : Own n.vars ts) (r : Bool) (hr : r = true ↔ Met n.fs n.vars ts c) : Calls Try.prog 25 #[n.v, c.v, .slice ao m cc] w fun e w' => e = .returned (.bool r) ∧ Hid (Below w.heap.size w w') := by
  obtain ⟨vars, fo, fn, fc, ko, kn, kc, fs, ks⟩ := n
  obtain ⟨x, y, f, lo, hi, hl, hh⟩ := c
  have HNA : Hid (Nv.At ⟨vars, fo, fn, fc, ko, kn, kc, fs, ks⟩ w) := Lib.hid hn
  have HT := Lib.hid ht
  have LT : Hid (ts.length = m) := Lib.hid ht.len
  have LF : Hid (fs.length = fn) := Lib.hid hn.forms.len
  have hm : m ≤ 9223372036854775807 := Nat.le_trans ht.le ht.top
  have hfn : fn ≤ 9223372036854775807 := Nat.le_trans hn.forms.le hn.forms.top
  have HRT : Hid (∀ F ∈ fs, F.Rt ∧ F.Ok ∧ F.cn ≤ 10000) := Lib.hid hrt
  have HO : Hid (Own vars ts) := Lib.hid hown
  have HR : Hid (r = true ↔ Met fs vars ts ⟨x, y, f, lo, hi, hl, hh⟩) := Lib.hid hr
  obtain ⟨rf, hrf⟩ : ∃ r : Bool, r = true ↔ FitsC vars fn ⟨x, y, f, lo, hi, hl, hh⟩ := by classical exact ⟨decide _, decide_eq_true_iff⟩
  have HRF := Lib.hid hrf
  have CF := Lib.hid (fun W => fits_any ⟨vars, fo, fn, fc, ko, kn, kc, fs, ks⟩ ⟨x, y, f, lo, hi, hl, hh⟩ W rf hrf hfn)
  clear hn ht hrt hown hr hrf
  obtain ⟨b, hb⟩ : ∃ b, w.heap.size = b := ⟨_, rfl⟩
  obtain ⟨bc, hbc⟩ : ∃ bc, b + 1 = bc := ⟨_, rfl⟩
  obtain ⟨wb, hwb⟩ : ∃ wb, (w.alloc (.cells #[.int .i64 vars, .slice fo fn fc, .slice ko kn kc] 38)).alloc (.cells #[.int .i64 x, .int .i64 y, .int .i64 f, .int .i64 lo, .int .i64 hi, .bool hl, .bool hh] 42) = wb := ⟨_, rfl⟩
  have KB : Hid (Below w.heap.size w wb) := Lib.hid (by rw [← hwb]; exact ((Below.refl _ _).alloc (Nat.le_refl _) _).alloc (by simp) _)
  have HN : Hid (wb.heap[b]? = some (.cells #[.int .i64 vars, .slice fo fn fc, .slice ko kn kc] 38 (0, 0))) := Lib.hid (by
    rw [← hwb]; exact (Below.heap_alloc _ _ _ (by simp; omega)).trans (heap_at hb))
  have HC : Hid (wb.heap[bc]? = some (.cells #[.int .i64 x, .int .i64 y, .int .i64 f, .int .i64 lo, .int .i64 hi, .bool hl, .bool hh] 42 (0, 0))) := Lib.hid (by rw [← hwb]; exact heap_at (by simp; omega))
  show Calls Try.prog 25 #[.agg #[.int .i64 vars, .slice fo fn fc, .slice ko kn kc], .agg #[.int .i64 x, .int .i64 y, .int .i64 f, .int .i64 lo, .int .i64 hi, .bool hl, .bool hh], .slice ao m cc] w _
  go_enter Try.func25, Try.ntmps25
  go_upto_region 1 with fail
  clear hwb hb hbc
  have e0 : wb.cell? ⟨b, 0, none⟩ = some (.int .i64 vars) := cell_block HN.out 0
  have e1 : wb.cell? ⟨b, 1, none⟩ = some (.slice fo fn fc) := cell_block HN.out 1
  have e2 : wb.cell? ⟨b, 2, none⟩ = some (.slice ko kn kc) := cell_block HN.out 2
  have f0 : wb.cell? ⟨bc, 0, none⟩ = some (.int .i64 x) := cell_block HC.out 0
  have f1 : wb.cell? ⟨bc, 1, none⟩ = some (.int .i64 y) := cell_block HC.out 1
  have f2 : wb.cell? ⟨bc, 2, none⟩ = some (.int .i64 f) := cell_block HC.out 2
  have f3 : wb.cell? ⟨bc, 3, none⟩ = some (.int .i64 lo) := cell_block HC.out 3
  have f4 : wb.cell? ⟨bc, 4, none⟩ = some (.int .i64 hi) := cell_block HC.out 4
  have f5 : wb.cell? ⟨bc, 5, none⟩ = some (.bool hl) := cell_block HC.out 5
  have f6 : wb.cell? ⟨bc, 6, none⟩ = some (.bool hh) := cell_block HC.out 6
  go_wp2_with fail
  (with_reducible refine (CF.out _).mono ?_)
  rintro e w1 ⟨rfl, q⟩
  have KW := Lib.hid (KB.out.trans (q.out.mono KB.out.size))
  have HN1 := Lib.hid (heap_keep HN.out q.out)
  have HC1 := Lib.hid (heap_keep HC.out q.out)
  clear q e0 e1 e2 f0 f1 f2 f3 f4 f5 f6 HN HC KB CF
  cases rf
  · have HF := Lib.hid (met_no HR.out (fun z => by rw [LF.out] at z; have := HRF.out.2 z; cases this))
    go_wp2
    go_returns
    exact ⟨ret_bool HF.out, KW⟩
  · have HFIT := Lib.hid (HRF.out.1 (by first | rfl | trivial))
    obtain ⟨kx, rfl⟩ := Int.eq_ofNat_of_zero_le HFIT.out.1.1
    obtain ⟨ky, rfl⟩ := Int.eq_ofNat_of_zero_le HFIT.out.2.1.1
    obtain ⟨kf, rfl⟩ := Int.eq_ofNat_of_zero_le HFIT.out.2.2.1
    have lf : kf < fs.length := by rw [LF.out]; have := HFIT.out.2.2.2; simp at this; omega
    have lx : kx < ts.length := by have := HFIT.out.1.2; have := HO.out.1; simp at *; omega
    have ly : ky < ts.length := by have := HFIT.out.2.1.2; have := HO.out.1; simp at *; omega
    obtain ⟨g, p, rfl, hc⟩ := (HNA.out.forms.keep KW.out).here (by show 0 < fn; rw [← LF.out]; omega)
    obtain ⟨gt, pt, rfl, hd⟩ := (HT.out.keep KW.out).here (by rw [← LT.out]; omega)
    have hc := hc kf lf
    have d1 := hd kx lx
    have d2 := hd ky ly
    have HFA := Lib.hid (fun W (q : Below w1.heap.size w1 W) => (HNA.out.forms.at_ fs[kf] (List.getElem_mem lf)).keep (KW.out.trans (q.mono KW.out.size)))
    have HF3 := Lib.hid (HRT.out fs[kf] (List.getElem_mem lf))
    have HTA := Lib.hid (HO.out.2 ts[kx] (List.getElem_mem lx))
    have HTB := Lib.hid (HO.out.2 ts[ky] (List.getElem_mem ly))
    have HE1 : Hid (fs[kf]? = some fs[kf] ∧ ts[kx]? = some ts[kx] ∧ ts[ky]? = some ts[ky]) := Lib.hid ⟨List.getElem?_eq_getElem lf, List.getElem?_eq_getElem lx, List.getElem?_eq_getElem ly⟩
    have i0 : (0 : Int) ≤ (kf : Int) := by omega
    have i1 : (kf : Int) < (fn : Int) := by have := LF.out; omega
    have i2 : (0 : Int) ≤ (kx : Int) := by omega
    have i3 : (kx : Int) < (m : Int) := by have := LT.out; omega
    have i4 : (0 : Int) ≤ (ky : Int) := by omega
    have i5 : (ky : Int) < (m : Int) := by have := LT.out; omega
    have hln : (fs[kf]).cs.length = (fs[kf]).cn := (HFA.out w1 (Below.refl _ _)).core.len
    obtain ⟨F, hF⟩ : ∃ F, fs[kf] = F := ⟨_, rfl⟩
    obtain ⟨ta, hta⟩ : ∃ a, ts[kx] = a := ⟨_, rfl⟩
    obtain ⟨tb, htb⟩ : ∃ a, ts[ky] = a := ⟨_, rfl⟩
    rw [hF] at hc HFA HF3 HE1 hln
    rw [hta] at d1 HTA HE1
    rw [htb] at d2 HTB HE1
    clear hF hta htb hd lf lx ly
    obtain ⟨ia, oa, ha⟩ := at_ex F ta
    obtain ⟨ib, ob, hb⟩ := at_ex F tb
    have HM : Hid (Met fs vars ts ⟨kx, ky, kf, lo, hi, hl, hh⟩ ↔ oa = true ∧ ob = true ∧ InRg lo hi hl hh (ib - ia)) := Lib.hid (met_ways (c := ⟨kx, ky, kf, lo, hi, hl, hh⟩) (by rw [LF.out]; exact HFIT.out) HF3.out.1 HF3.out.2.1 hln HE1.out.1 HE1.out.2.1 HE1.out.2.2 ha hb)
    obtain ⟨r2, hr2⟩ : ∃ r : Bool, r = true ↔ InRg lo hi hl hh (ib - ia) := by classical exact ⟨decide _, decide_eq_true_iff⟩
    have HR2 := Lib.hid hr2
    have HCC := Lib.hid (fun W => rgHas_any lo hi (ib - ia) hl hh W r2 hr2)
    have CD := Lib.hid (fun W (q : Below w1.heap.size w1 W) => distance_any F ta tb ia ib oa ob W (HFA.out W q) HF3.out.1 HF3.out.2.1 HF3.out.2.2 (by have := HTA.out; omega) (by have := HTA.out; omega) (by have := HTB.out; omega) (by have := HTB.out; omega) ha hb (if (oa && ob) then ib - ia else 0) (oa && ob) rfl rfl)
    obtain ⟨P, N, co, cn, cc, oo, on, oc, cs, os⟩ := F
    obtain ⟨h0, h1, h2, h3⟩ := hc
    have CD : Hid (∀ W, Below w1.heap.size w1 W → Calls Try.prog 9 #[.agg #[.int .i64 P, .int .i64 N, .slice co cn cc, .slice oo on oc], .int .i64 ta, .int .i64 tb] W fun e w' => e = .returned (.tuple #[.int .i64 (if (oa && ob) then ib - ia else 0), .bool (oa && ob)]) ∧ Hid (Below W.heap.size W w')) := CD
    have HS : Hid (∀ W, Below w1.heap.size w1 W → W.cell? ⟨b, 1, none⟩ = some (.slice (some ⟨g, p, none⟩) fn fc) ∧ W.cell? ⟨bc, 0, none⟩ = some (.int .i64 ((kx : Nat) : Int)) ∧ W.cell? ⟨bc, 1, none⟩ = some (.int .i64 ((ky : Nat) : Int)) ∧ W.cell? ⟨bc, 2, none⟩ = some (.int .i64 ((kf : Nat) : Int)) ∧ W.cell? ⟨g, p + kf * 4, none⟩ = some (.int .i64 P) ∧ W.cell? ⟨g, p + kf * 4 + 1, none⟩ = some (.int .i64 N) ∧ W.cell? ⟨g, p + kf * 4 + 2, none⟩ = some (.slice co cn cc) ∧ W.cell? ⟨g, p + kf * 4 + 3, none⟩ = some (.slice oo on oc) ∧ W.cell? ⟨gt, pt + kx, none⟩ = some (.int .i64 ta) ∧ W.cell? ⟨gt, pt + ky, none⟩ = some (.int .i64 tb) ∧ Hid (Below w1.heap.size w1 W)) := Lib.hid (fun W k => ⟨cell_keep (cell_block HN1.out 1) k, cell_keep (cell_block HC1.out 0) k, cell_keep (cell_block HC1.out 1) k, cell_keep (cell_block HC1.out 2) k, cell_keep h0 k, cell_keep h1 k, cell_keep h2 k, cell_keep h3 k, cell_keep d1 k, cell_keep d2 k, Lib.hid k⟩)
    clear h0 h1 h2 h3 d1 d2 ha hb hr2 hln HFA HF3 HTA HTB HE1
    go_upto_region 3 with fail
    refine wp_region_held_drew (S := (fun W => W.cell? ⟨b, 1, none⟩ = some (.slice (some ⟨g, p, none⟩) fn fc) ∧ W.cell? ⟨bc, 0, none⟩ = some (.int .i64 ((kx : Nat) : Int)) ∧ W.cell? ⟨bc, 1, none⟩ = some (.int .i64 ((ky : Nat) : Int)) ∧ W.cell? ⟨bc, 2, none⟩ = some (.int .i64 ((kf : Nat) : Int)) ∧ W.cell? ⟨g, p + kf * 4, none⟩ = some (.int .i64 P) ∧ W.cell? ⟨g, p + kf * 4 + 1, none⟩ = some (.int .i64 N) ∧ W.cell? ⟨g, p + kf * 4 + 2, none⟩ = some (.slice co cn cc) ∧ W.cell? ⟨g, p + kf * 4 + 3, none⟩ = some (.slice oo on oc) ∧ W.cell? ⟨gt, pt + kx, none⟩ = some (.int .i64 ta) ∧ W.cell? ⟨gt, pt + ky, none⟩ = some (.int .i64 tb) ∧ Hid (Below w1.heap.size w1 W))) (by kernel_rfl) ?_ (fun hHeld => ?_)
    · exact HS.out _ (Below.refl _ w1).drew
    refine wpAnyH_take (i := 0) (oi := _) (v := ?_) rfl (by kernel_rfl) (by kernel_rfl) (by kernel_rfl) (fun _ _ _ h => h) (Or.inl ⟨by kernel_rfl, ?_⟩) (by assumption) ?_
    rotate_left 1
    focus (intro wq hSw; (try dsimp only at hSw); obtain ⟨s0, s1, s2, s3, s4, s5, s6, s7, s8, s9, s10⟩ := hSw; go_simp; (try with_reducible rfl); done)
    try simp only [List.getElem_toArray, List.getElem_cons_zero, List.getElem_cons_succ, Act.put, List.setIfInBounds_toArray, List.set_cons_zero, List.set_cons_succ]
    refine wpAnyH_take (i := 1) (oi := _) (v := ?_) rfl (by kernel_rfl) (by kernel_rfl) (by kernel_rfl) (fun _ _ _ h => h) (Or.inl ⟨by kernel_rfl, ?_⟩) (by assumption) ?_
    rotate_left 1
    focus (intro wq hSw; (try dsimp only at hSw); obtain ⟨s0, s1, s2, s3, s4, s5, s6, s7, s8, s9, s10⟩ := hSw; go_simp; (try with_reducible rfl); done)
    try simp only [List.getElem_toArray, List.getElem_cons_zero, List.getElem_cons_succ, Act.put, List.setIfInBounds_toArray, List.set_cons_zero, List.set_cons_succ]
    refine wpAnyH_take (i := 2) (oi := _) (v := ?_) rfl (by kernel_rfl) (by kernel_rfl) (by kernel_rfl) (fun _ _ _ h => h) (Or.inl ⟨by kernel_rfl, ?_⟩) (by assumption) ?_
    rotate_left 1
    focus (intro wq hSw; (try dsimp only at hSw); obtain ⟨s0, s1, s2, s3, s4, s5, s6, s7, s8, s9, s10⟩ := hSw; go_simp; (try with_reducible rfl); done)
    try simp only [List.getElem_toArray, List.getElem_cons_zero, List.getElem_cons_succ, Act.put, List.setIfInBounds_toArray, List.set_cons_zero, List.set_cons_succ]
    refine wpAnyH_take (i := 3) (oi := _) (v := ?_) rfl (by kernel_rfl) (by kernel_rfl) (by kernel_rfl) (fun _ _ _ h => h) (Or.inl ⟨by kernel_rfl, ?_⟩) (by assumption) ?_
    rotate_left 1
    focus (intro wq hSw; (try dsimp only at hSw); obtain ⟨s0, s1, s2, s3, s4, s5, s6, s7, s8, s9, s10⟩ := hSw; go_simp; (try with_reducible rfl); done)
    try simp only [List.getElem_toArray, List.getElem_cons_zero, List.getElem_cons_succ, Act.put, List.setIfInBounds_toArray, List.set_cons_zero, List.set_cons_succ]
    refine wpAnyH_take (i := 4) (oi := _) (v := ?_) rfl (by kernel_rfl) (by kernel_rfl) (by kernel_rfl) (fun _ _ _ h => h) (Or.inl ⟨by kernel_rfl, ?_⟩) (by assumption) ?_
    rotate_left 1
    focus (intro wq hSw; (try dsimp only at hSw); obtain ⟨s0, s1, s2, s3, s4, s5, s6, s7, s8, s9, s10⟩ := hSw; go_simp; (try with_reducible rfl); done)
    try simp only [List.getElem_toArray, List.getElem_cons_zero, List.getElem_cons_succ, Act.put, List.setIfInBounds_toArray, List.set_cons_zero, List.set_cons_succ]
    refine wpAnyH_take (i := 5) (oi := _) (v := ?_) rfl (by kernel_rfl) (by kernel_rfl) (by kernel_rfl) (fun _ _ _ h => h) (Or.inl ⟨by kernel_rfl, ?_⟩) (by assumption) ?_
    rotate_left 1
    focus (intro wq hSw; (try dsimp only at hSw); obtain ⟨s0, s1, s2, s3, s4, s5, s6, s7, s8, s9, s10⟩ := hSw; go_simp; (try with_reducible rfl); done)
    try simp only [List.getElem_toArray, List.getElem_cons_zero, List.getElem_cons_succ, Act.put, List.setIfInBounds_toArray, List.set_cons_zero, List.set_cons_succ]
    refine wpAnyH_take (i := 6) (oi := _) (v := ?_) rfl (by kernel_rfl) (by kernel_rfl) (by kernel_rfl) (fun _ _ _ h => h) (Or.inl ⟨by kernel_rfl, ?_⟩) (by assumption) ?_
    rotate_left 1
    focus (intro wq hSw; (try dsimp only at hSw); obtain ⟨s0, s1, s2, s3, s4, s5, s6, s7, s8, s9, s10⟩ := hSw; go_simp; (try with_reducible rfl); done)
    try simp only [List.getElem_toArray, List.getElem_cons_zero, List.getElem_cons_succ, Act.put, List.setIfInBounds_toArray, List.set_cons_zero, List.set_cons_succ]
    refine wpAnyH_take (i := 7) (oi := _) (v := ?_) rfl (by kernel_rfl) (by kernel_rfl) (by kernel_rfl) (fun _ _ _ h => h) (Or.inl ⟨by kernel_rfl, ?_⟩) (by assumption) ?_
    rotate_left 1
    focus (intro wq hSw; (try dsimp only at hSw); obtain ⟨s0, s1, s2, s3, s4, s5, s6, s7, s8, s9, s10⟩ := hSw; go_simp; (try with_reducible rfl); done)
    try simp only [List.getElem_toArray, List.getElem_cons_zero, List.getElem_cons_succ, Act.put, List.setIfInBounds_toArray, List.set_cons_zero, List.set_cons_succ]
    refine wpAnyH_take (i := 8) (oi := _) (v := ?_) rfl (by kernel_rfl) (by kernel_rfl) (by kernel_rfl) (fun _ _ _ h => h) (Or.inl ⟨by kernel_rfl, ?_⟩) (by assumption) ?_
    rotate_left 1
    focus (intro wq hSw; (try dsimp only at hSw); obtain ⟨s0, s1, s2, s3, s4, s5, s6, s7, s8, s9, s10⟩ := hSw; go_simp; (try with_reducible rfl); done)
    try simp only [List.getElem_toArray, List.getElem_cons_zero, List.getElem_cons_succ, Act.put, List.setIfInBounds_toArray, List.set_cons_zero, List.set_cons_succ]
    refine wpAnyH_take (i := 9) (oi := _) (v := ?_) rfl (by kernel_rfl) (by kernel_rfl) (by kernel_rfl) (fun _ _ _ h => h) (Or.inl ⟨by kernel_rfl, ?_⟩) (by assumption) ?_
    rotate_left 1
    focus (intro wq hSw; (try dsimp only at hSw); obtain ⟨s0, s1, s2, s3, s4, s5, s6, s7, s8, s9, s10⟩ := hSw; go_simp; (try with_reducible rfl); done)
    try simp only [List.getElem_toArray, List.getElem_cons_zero, List.getElem_cons_succ, Act.put, List.setIfInBounds_toArray, List.set_cons_zero, List.set_cons_succ]
    refine wpAnyH_take (i := 10) (oi := _) (v := ?_) rfl (by kernel_rfl) (by kernel_rfl) (by kernel_rfl) (fun _ _ _ h => h) (Or.inl ⟨by kernel_rfl, ?_⟩) (by assumption) ?_
    rotate_left 1
    focus (intro wq hSw; (try dsimp only at hSw); obtain ⟨s0, s1, s2, s3, s4, s5, s6, s7, s8, s9, s10⟩ := hSw; go_simp; (try with_reducible rfl); done)
    try simp only [List.getElem_toArray, List.getElem_cons_zero, List.getElem_cons_succ, Act.put, List.setIfInBounds_toArray, List.set_cons_zero, List.set_cons_succ]
    refine wpAnyH_take (i := 11) (oi := _) (v := ?_) rfl (by kernel_rfl) (by kernel_rfl) (by kernel_rfl) (fun _ _ _ h => h) (Or.inl ⟨by kernel_rfl, ?_⟩) (by assumption) ?_
    rotate_left 1
    focus (intro wq hSw; (try dsimp only at hSw); obtain ⟨s0, s1, s2, s3, s4, s5, s6, s7, s8, s9, s10⟩ := hSw; go_simp; (try with_reducible rfl); done)
    try simp only [List.getElem_toArray, List.getElem_cons_zero, List.getElem_cons_succ, Act.put, List.setIfInBounds_toArray, List.set_cons_zero, List.set_cons_succ]
    refine wpAnyH_take (i := 12) (oi := _) (v := ?_) rfl (by kernel_rfl) (by kernel_rfl) (by kernel_rfl) (fun _ _ _ h => h) (Or.inl ⟨by kernel_rfl, ?_⟩) (by assumption) ?_
    rotate_left 1
    focus (intro wq hSw; (try dsimp only at hSw); obtain ⟨s0, s1, s2, s3, s4, s5, s6, s7, s8, s9, s10⟩ := hSw; go_simp; (try with_reducible rfl); done)
    try simp only [List.getElem_toArray, List.getElem_cons_zero, List.getElem_cons_succ, Act.put, List.setIfInBounds_toArray, List.set_cons_zero, List.set_cons_succ]
    refine wpAnyH_take (i := 13) (oi := _) (v := ?_) rfl (by kernel_rfl) (by kernel_rfl) (by kernel_rfl) (fun _ _ _ h => h) (Or.inl ⟨by kernel_rfl, ?_⟩) (by assumption) ?_
    rotate_left 1
    focus (intro wq hSw; (try dsimp only at hSw); obtain ⟨s0, s1, s2, s3, s4, s5, s6, s7, s8, s9, s10⟩ := hSw; go_simp; (try with_reducible rfl); done)
    try simp only [List.getElem_toArray, List.getElem_cons_zero, List.getElem_cons_succ, Act.put, List.setIfInBounds_toArray, List.set_cons_zero, List.set_cons_succ]
    refine wpAnyH_take (i := 14) (oi := _) (v := ?_) rfl (by kernel_rfl) (by kernel_rfl) (by kernel_rfl) (fun _ _ _ h => h) (Or.inl ⟨by kernel_rfl, ?_⟩) (by assumption) ?_
    rotate_left 1
    focus (intro wq hSw; (try dsimp only at hSw); obtain ⟨s0, s1, s2, s3, s4, s5, s6, s7, s8, s9, s10⟩ := hSw; go_simp; (try with_reducible rfl); done)
    try simp only [List.getElem_toArray, List.getElem_cons_zero, List.getElem_cons_succ, Act.put, List.setIfInBounds_toArray, List.set_cons_zero, List.set_cons_succ]
    refine wpAnyH_take (i := 15) (oi := _) (v := ?_) rfl (by kernel_rfl) (by kernel_rfl) (by kernel_rfl) (fun _ _ _ h => h) (Or.inl ⟨by kernel_rfl, ?_⟩) (by assumption) ?_
    rotate_left 1
    focus (intro wq hSw; (try dsimp only at hSw); obtain ⟨s0, s1, s2, s3, s4, s5, s6, s7, s8, s9, s10⟩ := hSw; go_simp; (try with_reducible rfl); done)
    try simp only [List.getElem_toArray, List.getElem_cons_zero, List.getElem_cons_succ, Act.put, List.setIfInBounds_toArray, List.set_cons_zero, List.set_cons_succ]
    refine wpAnyH_ready (rs := [16]) (by kernel_rfl) (by simp) ?_
    refine AllReadyH.cons (o := _) rfl (fun K hK => ?_) AllReadyH.nil
    rw [if_pos (by kernel_rfl)]
    go_simp
    (go_at_call 9; (with_reducible refine (CD.out _ hHeld.2.2.2.2.2.2.2.2.2.2.out).mono ?_); rintro e z1 ⟨rfl, q⟩; have q := q.out)
    first | refine hK.out _ _ ?_ (fun hHeld => ?_) | (go_wp2_with fail; refine hK.out _ _ ?_ (fun hHeld => ?_))
    · exact HS.out _ (hHeld.2.2.2.2.2.2.2.2.2.2.out.trans (q.mono hHeld.2.2.2.2.2.2.2.2.2.2.out.size))
    clear hK K
    try simp only [List.getElem_toArray, List.getElem_cons_zero, List.getElem_cons_succ, Act.put, List.setIfInBounds_toArray, List.set_cons_zero, List.set_cons_succ]
    refine wpAnyH_take (i := 17) (oi := _) (v := ?_) rfl (by kernel_rfl) (by kernel_rfl) (by kernel_rfl) (fun _ _ _ h => h) (Or.inl ⟨by kernel_rfl, ?_⟩) (by assumption) ?_
    rotate_left 1
    focus (intro wq hSw; (try dsimp only at hSw); obtain ⟨s0, s1, s2, s3, s4, s5, s6, s7, s8, s9, s10⟩ := hSw; go_simp; (try with_reducible rfl); done)
    try simp only [List.getElem_toArray, List.getElem_cons_zero, List.getElem_cons_succ, Act.put, List.setIfInBounds_toArray, List.set_cons_zero, List.set_cons_succ]
    refine wpAnyH_take (i := 18) (oi := _) (v := ?_) rfl (by kernel_rfl) (by kernel_rfl) (by kernel_rfl) (fun _ _ _ h => h) (Or.inl ⟨by kernel_rfl, ?_⟩) (by assumption) ?_
    rotate_left 1
    focus (intro wq hSw; (try dsimp only at hSw); obtain ⟨s0, s1, s2, s3, s4, s5, s6, s7, s8, s9, s10⟩ := hSw; go_simp; (try with_reducible rfl); done)
    try simp only [List.getElem_toArray, List.getElem_cons_zero, List.getElem_cons_succ, Act.put, List.setIfInBounds_toArray, List.set_cons_zero, List.set_cons_succ]
    refine wpAnyH_take (i := 19) (oi := _) (v := ?_) rfl (by kernel_rfl) (by kernel_rfl) (by kernel_rfl) (fun _ _ _ h => h) (Or.inl ⟨by kernel_rfl, ?_⟩) (by assumption) ?_
    rotate_left 1
    focus (intro wq hSw; (try dsimp only at hSw); obtain ⟨s0, s1, s2, s3, s4, s5, s6, s7, s8, s9, s10⟩ := hSw; go_simp; (try with_reducible rfl); done)
    try simp only [List.getElem_toArray, List.getElem_cons_zero, List.getElem_cons_succ, Act.put, List.setIfInBounds_toArray, List.set_cons_zero, List.set_cons_succ]
    refine wpAnyH_take (i := 20) (oi := _) (v := ?_) rfl (by kernel_rfl) (by kernel_rfl) (by kernel_rfl) (fun _ _ _ h => h) (Or.inl ⟨by kernel_rfl, ?_⟩) (by assumption) ?_
    rotate_left 1
    focus (intro wq hSw; (try dsimp only at hSw); obtain ⟨s0, s1, s2, s3, s4, s5, s6, s7, s8, s9, s10⟩ := hSw; go_simp; (try with_reducible rfl); done)
    try simp only [List.getElem_toArray, List.getElem_cons_zero, List.getElem_cons_succ, Act.put, List.setIfInBounds_toArray, List.set_cons_zero, List.set_cons_succ]
    refine wpAnyH_take (i := 21) (oi := _) (v := ?_) rfl (by kernel_rfl) (by kernel_rfl) (by kernel_rfl) (fun _ _ _ h => h) (Or.inl ⟨by kernel_rfl, ?_⟩) (by assumption) ?_
    rotate_left 1
    focus (intro wq hSw; (try dsimp only at hSw); obtain ⟨s0, s1, s2, s3, s4, s5, s6, s7, s8, s9, s10⟩ := hSw; go_simp; (try with_reducible rfl); done)
    try simp only [List.getElem_toArray, List.getElem_cons_zero, List.getElem_cons_succ, Act.put, List.setIfInBounds_toArray, List.set_cons_zero, List.set_cons_succ]
    refine wpAnyH_done (by kernel_rfl) ?_ _
    have HW := Lib.hid hHeld.2.2.2.2.2.2.2.2.2.2.out
    clear hHeld
    cases oa
    · have HF : Hid (false = r) := Lib.hid (by cases r with | false => rfl | true => have := (HM.out.1 (HR.out.1 rfl)).1; cases this)
      clear HR HM HCC
      go_wp2
      go_returns
      exact ⟨ret_bool HF.out, Lib.hid (KW.out.trans (HW.out.mono KW.out.size))⟩
    · cases ob
      · have HF : Hid (false = r) := Lib.hid (by cases r with | false => rfl | true => have := (HM.out.1 (HR.out.1 rfl)).2.1; cases this)
        clear HR HM HCC
        go_wp2
        go_returns
        exact ⟨ret_bool HF.out, Lib.hid (KW.out.trans (HW.out.mono KW.out.size))⟩
      · have HF : Hid (r2 = r) := Lib.hid (by
          have h : r = true ↔ r2 = true := by rw [HR.out, HM.out, HR2.out]; simp
          cases r <;> cases r2 <;> simp_all)
        have f3 := cell_keep (cell_block HC1.out 3) HW.out
        have f4 := cell_keep (cell_block HC1.out 4) HW.out
        have f5 := cell_keep (cell_block HC1.out 5) HW.out
        have f6 := cell_keep (cell_block HC1.out 6) HW.out
        go_wp2_with fail
        (with_reducible refine (HCC.out _).mono ?_)
        rintro e w5 ⟨rfl, q⟩
        go_wp2
        go_returns
        exact ⟨ret_bool HF.out, Lib.hid (KW.out.trans ((HW.out.trans (q.out.mono HW.out.size)).mono KW.out.size))⟩
set_option maxRecDepth 8000 in
set_option maxHeartbeats 4000000 in
theorem meets_any (n : Nv) (c : Cn) (ao : Option Addr) (m cc : Nat) (ts : List Int) (w : World) (hn : n.At w) (ht : IzAt w ao m cc ts) (hrt : ∀ F ∈ n.fs, F.Rt ∧ F.Ok ∧ F.cn ≤ 10000) (r : Bool) (hr : r = true ↔ Own n.vars ts ∧ Met n.fs n.vars ts c) : Calls Try.prog 11 #[n.v, c.v, .slice ao m cc] w fun e w' => e = .returned (.bool r) ∧ Hid (Below w.heap.size w w') := by
  obtain ⟨vars, fo, fn, fc, ko, kn, kc, fs, ks⟩ := n
  obtain ⟨x, y, f, lo, hi, hl, hh⟩ := c
  have HNA : Hid (Nv.At ⟨vars, fo, fn, fc, ko, kn, kc, fs, ks⟩ w) := Lib.hid hn
  have HT := Lib.hid ht
  have LT : Hid (ts.length = m) := Lib.hid ht.len
  have LF : Hid (fs.length = fn) := Lib.hid hn.forms.len
  have hm : m ≤ 9223372036854775807 := Nat.le_trans ht.le ht.top
  have hfn : fn ≤ 9223372036854775807 := Nat.le_trans hn.forms.le hn.forms.top
  obtain ⟨ro, hro⟩ : ∃ r : Bool, r = true ↔ Own vars ts := by classical exact ⟨decide _, decide_eq_true_iff⟩
  obtain ⟨rm, hrm⟩ : ∃ r : Bool, r = true ↔ Met fs vars ts ⟨x, y, f, lo, hi, hl, hh⟩ := by classical exact ⟨decide _, decide_eq_true_iff⟩
  have HO := Lib.hid hro
  have HR : Hid (r = (ro && rm)) := Lib.hid (by
    have h : r = true ↔ (ro && rm) = true := by rw [Bool.and_eq_true, hro, hrm]; exact hr
    cases r <;> cases hq : (ro && rm) <;> simp_all)
  have CO := Lib.hid (fun W (h : IzAt W ao m cc ts) => belong_any ⟨vars, fo, fn, fc, ko, kn, kc, fs, ks⟩ ao m cc ts W h ro hro)
  have CM := Lib.hid (fun (z : ro = true) W (h1 : Nv.At ⟨vars, fo, fn, fc, ko, kn, kc, fs, ks⟩ W) (h2 : IzAt W ao m cc ts) => met_any ⟨vars, fo, fn, fc, ko, kn, kc, fs, ks⟩ ⟨x, y, f, lo, hi, hl, hh⟩ ao m cc ts W h1 h2 hrt (hro.1 z) rm hrm)
  clear hn ht hrt hro hrm hr
  obtain ⟨b, hb⟩ : ∃ b, w.heap.size = b := ⟨_, rfl⟩
  obtain ⟨bc, hbc⟩ : ∃ bc, b + 1 = bc := ⟨_, rfl⟩
  obtain ⟨wb, hwb⟩ : ∃ wb, (w.alloc (.cells #[.int .i64 vars, .slice fo fn fc, .slice ko kn kc] 38)).alloc (.cells #[.int .i64 x, .int .i64 y, .int .i64 f, .int .i64 lo, .int .i64 hi, .bool hl, .bool hh] 42) = wb := ⟨_, rfl⟩
  have KB : Hid (Below w.heap.size w wb) := Lib.hid (by rw [← hwb]; exact ((Below.refl _ _).alloc (Nat.le_refl _) _).alloc (by simp) _)
  have HN : Hid (wb.heap[b]? = some (.cells #[.int .i64 vars, .slice fo fn fc, .slice ko kn kc] 38 (0, 0))) := Lib.hid (by
    rw [← hwb]; exact (Below.heap_alloc _ _ _ (by simp; omega)).trans (heap_at hb))
  have HC : Hid (wb.heap[bc]? = some (.cells #[.int .i64 x, .int .i64 y, .int .i64 f, .int .i64 lo, .int .i64 hi, .bool hl, .bool hh] 42 (0, 0))) := Lib.hid (by rw [← hwb]; exact heap_at (by simp; omega))
  show Calls Try.prog 11 #[.agg #[.int .i64 vars, .slice fo fn fc, .slice ko kn kc], .agg #[.int .i64 x, .int .i64 y, .int .i64 f, .int .i64 lo, .int .i64 hi, .bool hl, .bool hh], .slice ao m cc] w _
  go_enter Try.func11, Try.ntmps11
  go_upto_region 1 with fail
  clear hwb hb hbc
  have e0 : wb.cell? ⟨b, 0, none⟩ = some (.int .i64 vars) := cell_block HN.out 0
  have e1 : wb.cell? ⟨b, 1, none⟩ = some (.slice fo fn fc) := cell_block HN.out 1
  have e2 : wb.cell? ⟨b, 2, none⟩ = some (.slice ko kn kc) := cell_block HN.out 2
  go_wp2_with fail
  (with_reducible refine (CO.out _ (HT.out.keep KB.out)).mono ?_)
  rintro e w1 ⟨rfl, q⟩
  have KW := Lib.hid (KB.out.trans (q.out.mono KB.out.size))
  have HN1 := Lib.hid (heap_keep HN.out q.out)
  have HC1 := Lib.hid (heap_keep HC.out q.out)
  clear q e0 e1 e2 HN HC KB CO
  cases ro
  · go_wp2
    go_returns
    exact ⟨ret_bool (by rw [HR.out]; rfl), KW⟩
  · have HF : Hid (rm = r) := Lib.hid (by rw [HR.out]; rfl)
    have CM2 := Lib.hid (CM.out (by first | rfl | trivial) _ (HNA.out.keep KW.out) (HT.out.keep KW.out))
    clear CM
    have e0 : w1.cell? ⟨b, 0, none⟩ = some (.int .i64 vars) := cell_block HN1.out 0
    have e1 : w1.cell? ⟨b, 1, none⟩ = some (.slice fo fn fc) := cell_block HN1.out 1
    have e2 : w1.cell? ⟨b, 2, none⟩ = some (.slice ko kn kc) := cell_block HN1.out 2
    have f0 : w1.cell? ⟨bc, 0, none⟩ = some (.int .i64 x) := cell_block HC1.out 0
    have f1 : w1.cell? ⟨bc, 1, none⟩ = some (.int .i64 y) := cell_block HC1.out 1
    have f2 : w1.cell? ⟨bc, 2, none⟩ = some (.int .i64 f) := cell_block HC1.out 2
    have f3 : w1.cell? ⟨bc, 3, none⟩ = some (.int .i64 lo) := cell_block HC1.out 3
    have f4 : w1.cell? ⟨bc, 4, none⟩ = some (.int .i64 hi) := cell_block HC1.out 4
    have f5 : w1.cell? ⟨bc, 5, none⟩ = some (.bool hl) := cell_block HC1.out 5
    have f6 : w1.cell? ⟨bc, 6, none⟩ = some (.bool hh) := cell_block HC1.out 6
    go_wp2_with fail
    (with_reducible refine CM2.out.mono ?_)
    rintro e w2 ⟨rfl, q⟩
    clear e0 e1 e2 f0 f1 f2 f3 f4 f5 f6
    go_wp2
    go_returns
    exact ⟨ret_bool HF.out, Lib.hid (KW.out.trans (q.out.mono KW.out.size))⟩
end Go.Proofs.Ytaobhhgalkkmaaa
