/- M1, M2, M3, M4 in one. -/
import Derived.Test.YtmjapbjjfhmohaaKa
import Derived.Test.YtmjapbjjfhmohaaKc
import Derived.Test.YtmjapbjjfhmohaaKk
import Derived.Deep.RegionHeld3
import Derived.LoopIn
import Derived.LoopNIn
import Derived.OwnWalkIn
import Derived.RangeFuncBound
import Derived.RangeFuncCalls
import Derived.RangeFuncLeaves
import Derived.RangeFuncNested
import Derived.Shelf.Abstract
import Derived.Shelf.RegionOpen
import Derived.TacticsInMore
namespace Go.Proofs.Ytmjapbjjfhmohaa
set_option linter.unusedVariables false
set_option linter.unusedSimpArgs false
open Go.ChangeShapes Go.WideShapes Go.ChangeAt Go.RowKit
def movedW (l : List Sp) (d : Int) : List Sp := l.map fun s => (wrap64 (s.1 + d), wrap64 (s.2 + d))
theorem wrap_far {x u d : Int} (hx : -1099511627776 ≤ x ∧ x ≤ 1099511627776) (hu : -1099511627776 ≤ u ∧ u ≤ 1099511627776) (hd : -9223372036854775808 ≤ d ∧ d ≤ 9223372036854775807) : wrap64 (x + d) = u ↔ x + d = u := by
  unfold wrap64; omega
theorem movedW_good : ∀ {a b : List Sp} {lo lo' : Int} {d : Int}, Rt lo a → Rt lo' b → -1099511627776 ≤ lo → -1099511627776 ≤ lo' → (-9223372036854775808 ≤ d ∧ d ≤ 9223372036854775807) → (movedW a d = b ↔ moved a d = b) := by
  intro a b lo lo' d ha hb h1 h2 hd
  have key : ∀ (i : Nat) (hi : i < a.length) (hj : i < b.length), ((wrap64 (a[i].1 + d), wrap64 (a[i].2 + d)) : Sp) = b[i] ↔ ((a[i].1 + d, a[i].2 + d) : Sp) = b[i] := by
    intro i hi hj
    have g1 := good_at ha i hi
    have g2 := good_at hb i hj
    rw [Prod.ext_iff, Prod.ext_iff]
    simp only
    rw [wrap_far (by omega) (by omega) hd, wrap_far (by omega) (by omega) hd]
  constructor
  · intro e
    have hl : a.length = b.length := by rw [← e]; simp [movedW]
    refine List.ext_getElem (by rw [moved_length]; exact hl) (fun i h3 h4 => ?_)
    rw [moved_length] at h3
    have := (key i h3 h4).1 (by
      have e2 : (movedW a d)[i]? = b[i]? := by rw [e]
      rw [List.getElem?_eq_getElem h4] at e2
      unfold movedW at e2
      rw [List.getElem?_map, List.getElem?_eq_getElem h3] at e2
      simpa using e2)
    rw [← this]; simp [moved]
  · intro e
    have hl : a.length = b.length := by rw [← e]; simp [moved]
    refine List.ext_getElem (by unfold movedW; rw [List.length_map]; exact hl) (fun i h3 h4 => ?_)
    have h3 : i < a.length := by unfold movedW at h3; rwa [List.length_map] at h3
    have := (key i h3 h4).2 (by
      have e2 : (moved a d)[i]? = b[i]? := by rw [e]
      rw [List.getElem?_eq_getElem h4] at e2
      unfold moved at e2
      rw [List.getElem?_map, List.getElem?_eq_getElem h3] at e2
      simpa using e2)
    rw [← this]; simp [movedW]
set_option maxHeartbeats 1000000 in
theorem movedC_any (x y u v d : Int) (b : Nat) (w : World) (hb : w.cell? ⟨b, 0, none⟩ = some (.int .i64 d)) (r : Bool) (hr : r = true ↔ wrap64 (x + d) = u ∧ wrap64 (y + d) = v) :
    Calls Try.prog 84 #[.agg #[.int .i64 x, .int .i64 y], .agg #[.int .i64 u, .int .i64 v], .pointer (some ⟨b, 0, none⟩)] w fun e w' => e = .returned (.bool r) ∧ Below w.heap.size w w' := by
  have K1 := (Below.refl _ w).alloc (Nat.le_refl _) (.cells #[.int .i64 x, .int .i64 y] 50)
  have K2 := (Below.refl _ (w.alloc (.cells #[.int .i64 x, .int .i64 y] 50))).alloc (Nat.le_refl _) (.cells #[.int .i64 u, .int .i64 v] 50)
  have a1 := cell_keep (box_cells w (.int .i64 x) (.int .i64 y) 50).1 K2
  have a2 := cell_keep (box_cells w (.int .i64 x) (.int .i64 y) 50).2 K2
  have b1 := (box_cells (w.alloc (.cells #[.int .i64 x, .int .i64 y] 50)) (.int .i64 u) (.int .i64 v) 50).1
  have b2 := (box_cells (w.alloc (.cells #[.int .i64 x, .int .i64 y] 50)) (.int .i64 u) (.int .i64 v) 50).2
  have HB : Hid (Below w.heap.size w ((w.alloc (.cells #[.int .i64 x, .int .i64 y] 50)).alloc (.cells #[.int .i64 u, .int .i64 v] 50))) := Lib.hid (K1.trans (K2.mono K1.size))
  have c1 := cell_keep hb (K1.trans (K2.mono K1.size))
  clear hb K1 K2
  obtain ⟨p, hp⟩ : ∃ p, wrap64 (x + d) = p := ⟨_, rfl⟩
  obtain ⟨q, hq⟩ : ∃ q, wrap64 (y + d) = q := ⟨_, rfl⟩
  rw [hp, hq] at hr
  obtain ⟨bx, hbx⟩ : ∃ b, w.heap.size = b := ⟨_, rfl⟩
  obtain ⟨bu, hbu⟩ : ∃ b, (w.alloc (.cells #[.int .i64 x, .int .i64 y] 50)).heap.size = b := ⟨_, rfl⟩
  rw [hbx] at a1 a2
  rw [hbu] at b1 b2
  have hbu2 : bx + 1 = bu := by rw [← hbu, ← hbx]; simp
  clear hbu
  obtain ⟨wb, hwb⟩ : ∃ wb, (w.alloc (.cells #[.int .i64 x, .int .i64 y] 50)).alloc (.cells #[.int .i64 u, .int .i64 v] 50) = wb := ⟨_, rfl⟩
  rw [hwb] at a1 a2 b1 b2 c1 HB
  have HR := Lib.hid hr
  clear hr
  go_enter Try.func84, Try.ntmps84
  go_upto_region 1 with fail
  clear hwb hbx hbu2
  by_cases h1 : p = u
  · have t1 : (p == u) = true := by simp; exact h1
    by_cases h2 : q = v
    · have t2 : (q == v) = true := by simp; exact h2
      have HE : Hid (true = r) := Lib.hid (HR.out.2 ⟨h1, h2⟩).symm
      clear h1 h2
      go_wp2
      go_returns
      exact ⟨ret_bool HE.out, HB.out⟩
    · have t2 : (q == v) = false := by simp; exact h2
      have HE : Hid (false = r) := Lib.hid (by cases r; rfl; exact absurd (HR.out.1 rfl).2 h2)
      clear h1 h2
      go_wp2
      go_returns
      exact ⟨ret_bool HE.out, HB.out⟩
  · have t1 : (p == u) = false := by simp; exact h1
    have HE : Hid (false = r) := Lib.hid (by cases r; rfl; exact absurd (HR.out.1 rfl).1 h1)
    clear h1
    go_wp2
    go_returns
    exact ⟨ret_bool HE.out, HB.out⟩
theorem take_map {a b : List Sp} {d : Int} (h : a.length = b.length) {k : Nat} (hk : k < a.length) (e : (movedW a d).take k = b.take k) : (movedW a d).take (k + 1) = b.take (k + 1) ↔ ((wrap64 (a[k].1 + d), wrap64 (a[k].2 + d)) : Sp) = b[k]'(by omega) := by
  have hl : (movedW a d).length = a.length := by simp [movedW]
  have hk' : k < b.length := by omega
  have hk2 : k < (movedW a d).length := by omega
  have e2 : (movedW a d)[k] = (wrap64 (a[k].1 + d), wrap64 (a[k].2 + d)) := by simp [movedW]
  rw [List.take_succ_eq_append_getElem hk2, List.take_succ_eq_append_getElem hk', e, e2]
  exact ⟨fun h => List.singleton_inj.1 (List.append_cancel_left h), fun h => by rw [h]⟩
set_option maxHeartbeats 4000000 in
theorem equalMoved_any (ao bo : Option Addr) (n c m k : Nat) (a b : List Sp) (d : Int) (g : Nat) (w : World) (ha : SpAt w ao n c a) (hb : SpAt w bo m k b) (hg : w.cell? ⟨g, 0, none⟩ = some (.int .i64 d)) (r : Bool) (hr : r = true ↔ movedW a d = b) :
    Calls Try.prog 83 #[.slice ao n c, .slice bo m k, .func (.func 84) #[] #[.pointer (some ⟨g, 0, none⟩)]] w fun e w' => e = .returned (.bool r) ∧ Below w.heap.size w w' := by
  have HA := Lib.hid ha
  have HB := Lib.hid hb
  have HG := Lib.hid hg
  have HR := Lib.hid hr
  have hmx : n ≤ 9223372036854775807 := Nat.le_trans ha.le ha.top
  have LA := Lib.hid ha.len
  have LB := Lib.hid hb.len
  clear ha hb hr hg
  by_cases hnm : n = m
  · subst hnm
    have t1 : ((n : Int) != (n : Int)) = false := by simp
    go_enter Try.func83, Try.ntmps83
    go_wp2
    go_loopw [17] (fun ii wr => ∃ i : Nat, i ≤ n ∧ ii = .int .i64 i ∧ Hid ((movedW a d).take i = b.take i) ∧ Hid (Below w.heap.size w wr)) (fun ii _ => n - (intOf ii).toNat)
    case atStart => exact ⟨0, Nat.zero_le _, rfl, Lib.hid rfl, Lib.hid (Below.refl _ _)⟩
    case round =>
      obtain ⟨i, hi, rfl, HI, HW⟩ := hrel
      by_cases ilt : i < n
      · obtain ⟨x, p, rfl, hc⟩ := HA.out.here (by omega)
        obtain ⟨y, q, rfl, hd⟩ := HB.out.here (by omega)
        have hia : i < a.length := by rw [LA.out]; exact ilt
        have hib : i < b.length := by rw [LB.out]; exact ilt
        have c1 := cell_keep (hc i hia).1 HW.out
        have c2 := cell_keep (hc i hia).2 HW.out
        have d1 := cell_keep (hd i hib).1 HW.out
        have d2 := cell_keep (hd i hib).2 HW.out
        have HT := Lib.hid (take_map (d := d) (by rw [LA.out, LB.out]) hia HI.out)
        have HGG : Hid (movedW a d = b → ((wrap64 (a[i].1 + d), wrap64 (a[i].2 + d)) : Sp) = b[i]) := Lib.hid (fun z => by subst z; simp [movedW])
        have i0 : (0 : Int) ≤ (i : Int) := by omega
        have i1 : (i : Int) < (n : Int) := by omega
        clear hc hd
        obtain ⟨s, hs⟩ : ∃ z, a[i] = z := ⟨_, rfl⟩
        obtain ⟨u, hu⟩ : ∃ z, b[i] = z := ⟨_, rfl⟩
        rw [hs] at c1 c2 HT HGG
        rw [hu] at d1 d2 HT HGG
        obtain ⟨s1, s2⟩ := s
        obtain ⟨u1, u2⟩ := u
        simp only at c1 c2 d1 d2
        clear hs hu
        have HW1 := Lib.hid ((Below.refl _ wr).alloc (Nat.le_refl _) (.cells #[.int .i64 s1, .int .i64 s2] 50))
        have e1 := cell_keep d1 HW1.out
        have e2 := cell_keep d2 HW1.out
        have HW2 := Lib.hid (HW1.out.trans (((Below.refl _ (wr.alloc (.cells #[.int .i64 s1, .int .i64 s2] 50))).alloc (Nat.le_refl _) (.cells #[.int .i64 u1, .int .i64 u2] 50)).mono HW1.out.size))
        have f1 := cell_keep (box_cells wr (.int .i64 s1) (.int .i64 s2) 50).1 ((Below.refl _ (wr.alloc (.cells #[.int .i64 s1, .int .i64 s2] 50))).alloc (Nat.le_refl _) (.cells #[.int .i64 u1, .int .i64 u2] 50))
        have f2 := cell_keep (box_cells wr (.int .i64 s1) (.int .i64 s2) 50).2 ((Below.refl _ (wr.alloc (.cells #[.int .i64 s1, .int .i64 s2] 50))).alloc (Nat.le_refl _) (.cells #[.int .i64 u1, .int .i64 u2] 50))
        have g1 := (box_cells (wr.alloc (.cells #[.int .i64 s1, .int .i64 s2] 50)) (.int .i64 u1) (.int .i64 u2) 50).1
        have g2 := (box_cells (wr.alloc (.cells #[.int .i64 s1, .int .i64 s2] 50)) (.int .i64 u1) (.int .i64 u2) 50).2
        have hsz : (wr.alloc (.cells #[.int .i64 s1, .int .i64 s2] 50)).heap.size = wr.heap.size + 1 := by simp
        rw [hsz] at g1 g2
        clear hsz
        obtain ⟨r2, hr2⟩ : ∃ r : Bool, r = true ↔ wrap64 (s1 + d) = u1 ∧ wrap64 (s2 + d) = u2 := ⟨decide _, decide_eq_true_iff⟩
        have HC := Lib.hid (fun W (h : Below wr.heap.size wr W) => movedC_any s1 s2 u1 u2 d g W (cell_keep (cell_keep HG.out HW.out) h) r2 hr2)
        have HR2 := Lib.hid hr2
        clear hr2
        go_wp2_with fail
        (with_reducible refine (HC.out _ HW2.out).mono ?_)
        rintro e w3 ⟨rfl, q3⟩
        have HW3 := Lib.hid (HW.out.trans ((HW2.out.trans (q3.mono HW2.out.size)).mono HW.out.size))
        clear q3 HW1 HW2 HC c1 c2 d1 d2 e1 e2 f1 f2 g1 g2
        cases r2
        · have HF : Hid (false = r) := Lib.hid (by
            cases r
            · rfl
            · have h := HGG.out (HR.out.1 rfl)
              rw [Prod.ext_iff] at h
              have := HR2.out.2 h
              cases this)
          clear HT HGG HR2
          go_wp2
          go_returns
          exact ⟨ret_bool HF.out, HW3.out⟩
        · have HI2 : Hid ((movedW a d).take (i + 1) = b.take (i + 1)) := Lib.hid (HT.out.2 (Prod.ext_iff.2 (HR2.out.1 rfl)))
          clear HT HGG HR2 HI
          go_wp2
          go_roundw
          case rel => exact ⟨i + 1, by omega, by go_num, HI2, HW3⟩
          case measure => simp [intOf]; omega
      · obtain rfl : n = i := by omega
        have HF : Hid (true = r) := Lib.hid (by
          have h := HI.out
          rw [List.take_of_length_le (by unfold movedW; rw [List.length_map, LA.out]; omega), List.take_of_length_le (by rw [LB.out]; omega)] at h
          exact (HR.out.2 h).symm)
        go_wp2
        go_returns
        exact ⟨ret_bool HF.out, HW.out⟩
  · have t1 : ((n : Int) != (m : Int)) = true := by simp; omega
    have HF : Hid (false = r) := Lib.hid (by
      cases r
      · rfl
      · have h := HR.out.1 rfl
        have h1 := LA.out; have h2 := LB.out
        rw [← h] at h2
        unfold movedW at h2
        rw [List.length_map] at h2
        omega)
    clear hnm
    go_enter Try.func83, Try.ntmps83
    go_wp2
    go_returns
    exact ⟨ret_bool HF.out, Below.refl _ _⟩
theorem movedF_any (ao bo : Option Addr) (n c m k : Nat) (a b : List Sp) (d : Int) (w : World) (ha : SpAt w ao n c a) (hb : SpAt w bo m k b) (ga : Good a) (gb : Good b) (h1 : -9223372036854775808 ≤ d) (h2 : d ≤ 9223372036854775807) (r : Bool) (hr : r = true ↔ moved a d = b) :
    Calls Try.prog 60 #[.slice ao n c, .slice bo m k, .int .i64 d] w fun e w' => e = .returned (.bool r) ∧ Below w.heap.size w w' := by
  have KA := (Below.refl _ w).alloc (Nat.le_refl _) (.cells #[.int .i64 d] 3)
  have E := Lib.hid (equalMoved_any ao bo n c m k a b d w.heap.size (w.alloc (.cells #[.int .i64 d] 3)) (ha.keep KA) (hb.keep KA) (box_one w (.int .i64 d) 3) r (by rw [hr, movedW_good ga gb (Int.le_refl _) (Int.le_refl _) ⟨h1, h2⟩]))
  have HK := Lib.hid KA
  clear ha hb ga gb hr KA
  go_enter Try.func60, Try.ntmps60
  go_wp2_with fail
  (with_reducible refine (E.out).mono ?_)
  rintro e w1 ⟨rfl, b1⟩
  have HB := Lib.hid (HK.out.trans (b1.mono HK.out.size))
  clear b1 HK
  go_wp2
  go_returns
  exact ⟨rfl, HB.out⟩
theorem moved_fit {l : List Sp} {d : Int} {k : List Sp} (h : moved l d = k) (g : Good k) : Fit (moved l d) := by rw [h]; exact fit_good g
set_option maxHeartbeats 4000000 in
theorem usual_any (F : Fv) (X : Int) (lo : Option Addr) (lm ld : Nat) (L : List Sp) (w : World) (hF : F.At w) (ok : F.Ok) (hL : SpAt w lo lm ld L) (gL : Good L) (hX : InR X) (r : Bool) (hr : r = true ↔ L = cg F.cs F.P F.N X) :
    Calls Try.prog 38 #[F.v, .agg #[.int .i64 X, .slice lo lm ld]] w fun e w' => e = .returned (.bool r) ∧ Below w.heap.size w w' := by
  have HR := Lib.hid hr
  have HK := Lib.hid ok
  have hmeas := ok.meas
  have cn1 := ok.cn
  obtain ⟨hX1, hX2⟩ := hX
  have HLN := Lib.hid hL.len
  have hml : lm ≤ 9223372036854775807 := Nat.le_trans hL.le hL.top
  have HGL := Lib.hid gL
  clear hr ok gL
  obtain ⟨P, N, co, cn, cc, oo, on, oc, cs, os⟩ := F
  have LC : Hid (cs.length = cn) := Lib.hid hF.core.len
  have hmc : cn ≤ 9223372036854775807 := Nat.le_trans hF.core.le hF.core.top
  have HR : Hid (r = true ↔ L = cg cs P N X) := HR
  have cn1 : cn ≤ 1000000 := cn1
  have hmeas : (N = 0 ∧ P = 0 ∧ cn = 0) ∨ (N ≠ 0 ∧ N = cn ∧ 1 ≤ P ∧ P ≤ 1099511627776) := hmeas
  obtain ⟨b, hb⟩ : ∃ b, w.heap.size = b := ⟨_, rfl⟩
  obtain ⟨wb, hwb⟩ : ∃ wb, w.alloc (.cells #[.int .i64 P, .int .i64 N, .slice co cn cc, .slice oo on oc] 25) = wb := ⟨_, rfl⟩
  have HBB : Hid (Fbox ⟨P, N, co, cn, cc, oo, on, oc, cs, os⟩ w wb b) := Lib.hid (by rw [← hwb, ← hb]; exact fbox_new hF)
  have hL := hL.keep HBB.out.bw
  obtain ⟨b2, hb2⟩ : ∃ b2, b + 1 = b2 := ⟨_, rfl⟩
  have hszb : wb.heap.size = b2 := by rw [← hwb, ← hb2, ← hb]; simp
  obtain ⟨wc, hwc⟩ : ∃ wc, wb.alloc (.cells #[.int .i64 X, .slice lo lm ld] 52) = wc := ⟨_, rfl⟩
  have KA : Below wb.heap.size wb wc := by rw [← hwc]; exact (Below.refl _ wb).alloc (Nat.le_refl _) _
  have x0 := (box_cells wb (.int .i64 X) (.slice lo lm ld) 52).1
  have x1 := (box_cells wb (.int .i64 X) (.slice lo lm ld) 52).2
  rw [hwc, hszb] at x0 x1
  have HBB := Lib.hid (HBB.out.keep KA)
  have HSL := Lib.hid (hL.keep KA)
  have HX0 := Lib.hid x0
  have HX1 := Lib.hid x1
  clear hF hL KA
  show Calls Try.prog 38 #[.agg #[.int .i64 P, .int .i64 N, .slice co cn cc, .slice oo on oc], .agg #[.int .i64 X, .slice lo lm ld]] w _
  go_enter Try.func38, Try.ntmps38
  go_upto_region 1 with fail
  clear hwb hb hwc hb2 hszb
  have e0 : wc.cell? ⟨b, 0, none⟩ = some (.int .i64 P) := HBB.out.c0
  have e1 : wc.cell? ⟨b, 1, none⟩ = some (.int .i64 N) := HBB.out.c1
  have e2 : wc.cell? ⟨b, 2, none⟩ = some (.slice co cn cc) := HBB.out.c2
  have HLB : Hid (L = [] ↔ lm = 0) := Lib.hid ⟨fun h => by rw [← HLN.out, h]; rfl, fun h => List.eq_nil_of_length_eq_zero (by rw [HLN.out]; exact h)⟩
  by_cases n0 : N = 0
  · have HE : Hid (r = true ↔ lm = 0) := Lib.hid (by rw [HR.out, cg_out (fun f => by have := f.1; omega), HLB.out])
    have t0 : (N == 0) = true := by simp; exact n0
    clear hmeas n0
    by_cases z : lm = 0
    · have t1 : ((lm : Int) == 0) = true := by simp; exact z
      have HE2 : Hid (true = r) := Lib.hid (HE.out.2 z).symm
      go_wp2
      go_returns
      exact ⟨ret_bool HE2.out, HBB.out.bw⟩
    · have t1 : ((lm : Int) == 0) = false := by simp; exact z
      have HE2 : Hid (false = r) := Lib.hid (by cases r; rfl; exact absurd (HE.out.1 rfl) z)
      go_wp2
      go_returns
      exact ⟨ret_bool HE2.out, HBB.out.bw⟩
  · have t0 : (N == 0) = false := by simp; exact n0
    obtain ⟨m1, m2, m3⟩ : N = (cn : Int) ∧ 1 ≤ P ∧ P ≤ 1099511627776 := by
      rcases hmeas with ⟨h, _⟩ | ⟨_, h1, h2, h3⟩
      · exact absurd h n0
      · exact ⟨h1, h2, h3⟩
    subst m1
    have np : (0 : Int) < (cn : Int) := by omega
    have r3 : (cn : Int) ≠ 0 := by omega
    have r4 : ¬ (X = -9223372036854775808 ∧ (cn : Int) = -1) := by omega
    clear hmeas n0
    have HFU : Hid (Full cs (cn : Int)) := Lib.hid ⟨np, by rw [LC.out]⟩
    have HM := Lib.hid (fmod_nat X np)
    have HD := Lib.hid (fdiv_in X np (by omega) (by omega))
    have HFL := Lib.hid (fun W => floor_ok X cn W (by omega) (by omega) (by omega) (by omega) r3 r4)
    have HCG : Hid (cg cs P (cn : Int) X = moved (cset cs (cn : Int) X) (P * X.fdiv (cn : Int))) := Lib.hid (cg_in HFU.out)
    have HCS : Hid (cset cs (cn : Int) X = cs.getD (X.fmod (cn : Int)).toNat []) := Lib.hid rfl
    obtain ⟨at_, hat⟩ : ∃ q, X.fmod (cn : Int) = q := ⟨_, rfl⟩
    obtain ⟨tn, htn⟩ : ∃ q, X.fdiv (cn : Int) = q := ⟨_, rfl⟩
    rw [hat] at HM HFL HCS
    rw [htn] at HD HFL HCG
    obtain ⟨a0, a1⟩ := HM.out
    obtain ⟨d0, d1⟩ := HD.out
    clear hat htn
    obtain ⟨k, rfl⟩ : ∃ k : Nat, at_ = (k : Int) := ⟨at_.toNat, by omega⟩
    have klt : k < cn := by omega
    obtain ⟨g, p, rfl, hc⟩ := (show CoAt wc co cn cc cs from HBB.out.at_.core).here (by omega)
    have hkl : k < cs.length := by rw [LC.out]; exact klt
    obtain ⟨o, m, d, c1, c2⟩ := hc k hkl
    have HL : Hid (cs.getD ((k : Int)).toNat [] = cs[k]'hkl) := Lib.hid (by rw [Int.toNat_natCast, List.getD_eq_getElem?_getD, List.getElem?_eq_getElem hkl]; rfl)
    have HGO : Hid (Good (cs[k]'hkl)) := Lib.hid (HK.out.core _ (List.getElem_mem hkl))
    have HSP := Lib.hid c2
    obtain ⟨C, hC⟩ : ∃ q, (cs[k]'hkl) = q := ⟨_, rfl⟩
    rw [hC] at HL HGO HSP
    have HE : Hid (r = true ↔ moved C (P * tn) = L) := Lib.hid (by
      rw [HR.out, HCG.out, HCS.out, HL.out]
      exact eq_comm)
    clear hC hc c2 HL HCG HCS HM HR HK
    clear hkl
    have k0 : (0 : Int) ≤ (k : Int) := by omega
    have k1 : (k : Int) < (cn : Int) := by omega
    have hmm : m ≤ 9223372036854775807 := Nat.le_trans HSP.out.le HSP.out.top
    have HLM := Lib.hid HSP.out.len
    go_wp2_with fail
    (with_reducible refine (HFL.out _).mono ?_)
    rintro e w4 ⟨rfl, nd, hw4⟩
    have HB4 : Hid (Below wc.heap.size wc w4) := Lib.hid (by rw [hw4]; exact below_drewN (Below.refl _ _) _)
    clear hw4
    have HBB := Lib.hid (HBB.out.keep HB4.out)
    have HSP := Lib.hid (HSP.out.keep HB4.out)
    have HSL := Lib.hid (HSL.out.keep HB4.out)
    have c1 := cell_keep c1 HB4.out
    have x1 := cell_keep x1 HB4.out
    clear e0 e1 e2 HFL HB4 x0
    have e0 : w4.cell? ⟨b, 0, none⟩ = some (.int .i64 P) := HBB.out.c0
    have e2 : w4.cell? ⟨b, 2, none⟩ = some (.slice (some ⟨g, p, none⟩) cn cc) := HBB.out.c2
    by_cases hm : m = 0
    · have HC0 : Hid (C = []) := Lib.hid (List.eq_nil_of_length_eq_zero (by rw [HLM.out]; exact hm))
      have HE2 : Hid (r = true ↔ lm = 0) := Lib.hid (by rw [HE.out, HC0.out, ← HLB.out]; exact eq_comm)
      have t1 : ((m : Int) == 0) = true := by simp; omega
      by_cases z : lm = 0
      · have t2 : ((lm : Int) == 0) = true := by simp; exact z
        have HE3 : Hid (true = r) := Lib.hid (HE2.out.2 z).symm
        go_wp2
        go_returns
        exact ⟨ret_bool HE3.out, HBB.out.bw⟩
      · have t2 : ((lm : Int) == 0) = false := by simp; exact z
        have HE3 : Hid (false = r) := Lib.hid (by cases r; rfl; exact absurd (HE2.out.1 rfl) z)
        go_wp2
        go_returns
        exact ⟨ret_bool HE3.out, HBB.out.bw⟩
    · have t1 : ((m : Int) == 0) = false := by simp; omega
      have HNE : Hid (C ≠ []) := Lib.hid (fun h => by have := HLM.out; rw [h] at this; simp at this; omega)
      by_cases hv : -9223372036854775808 ≤ P * tn ∧ P * tn ≤ 9223372036854775807
      · have HML := Lib.hid (fun W => mul_ok P tn W (by omega) (by omega) d0 d1 hv.1 hv.2)
        obtain ⟨by_, hby⟩ : ∃ q, P * tn = q := ⟨_, rfl⟩
        rw [hby] at HML HE
        obtain ⟨v1, v2⟩ := hv
        rw [hby] at v1 v2
        have HMV := Lib.hid (fun W (h : Below w4.heap.size w4 W) => movedF_any o lo m d lm ld C L by_ W (HSP.out.keep h) (HSL.out.keep h) HGO.out HGL.out v1 v2 r HE.out)
        clear hby v1 v2
        go_wp2_with fail
        (with_reducible refine (HML.out _).mono ?_)
        rintro e w5 ⟨rfl, rfl⟩
        go_upto_region 7 with fail
        have KP : Hid (∀ W W' (h : Hid (Below w4.heap.size w4 W) ∧ W.cell? ⟨b, 2, none⟩ = some (.slice (some ⟨g, p, none⟩) cn cc) ∧ W.cell? ⟨g, p + k, none⟩ = some (.slice o m d) ∧ W.cell? ⟨b2, 1, none⟩ = some (.slice lo lm ld)), Below W.heap.size W W' → Hid (Below w4.heap.size w4 W') ∧ W'.cell? ⟨b, 2, none⟩ = some (.slice (some ⟨g, p, none⟩) cn cc) ∧ W'.cell? ⟨g, p + k, none⟩ = some (.slice o m d) ∧ W'.cell? ⟨b2, 1, none⟩ = some (.slice lo lm ld)) := Lib.hid (fun W W' h q => ⟨Lib.hid (h.1.out.trans (q.mono h.1.out.size)), cell_keep h.2.1 q, cell_keep h.2.2.1 q, cell_keep h.2.2.2 q⟩)
        have E1 := Lib.hid (fun W (h : Hid (Below w4.heap.size w4 W) ∧ W.cell? ⟨b, 2, none⟩ = some (.slice (some ⟨g, p, none⟩) cn cc) ∧ W.cell? ⟨g, p + k, none⟩ = some (.slice o m d) ∧ W.cell? ⟨b2, 1, none⟩ = some (.slice lo lm ld)) => HMV.out W h.1.out)
        have S0 := Lib.hid (KP.out w4 w4.drew ⟨Lib.hid (Below.refl _ _), e2, c1, x1⟩ (Below.refl _ w4).drew)
        clear e2 c1 x1 HMV e0
        go_region_held3 (fun W => Hid (Below w4.heap.size w4 W) ∧ W.cell? ⟨b, 2, none⟩ = some (.slice (some ⟨g, p, none⟩) cn cc) ∧ W.cell? ⟨g, p + k, none⟩ = some (.slice o m d) ∧ W.cell? ⟨b2, 1, none⟩ = some (.slice lo lm ld)) (first | exact S0.out | exact S1.out)
          ((first
            | (go_at_call 60; (with_reducible refine (E1.out _ (by assumption)).mono ?_); rintro e w6 ⟨rfl, qq⟩; have S1 := Lib.hid (KP.out _ _ (by assumption) qq))
            | fail))
        have HB6 := Lib.hid (HBB.out.keep S1.out.1.out)
        clear S0 S1 KP E1
        go_wp2
        go_returns
        exact ⟨rfl, HB6.out.bw⟩
      · have HML := Lib.hid (fun W => mul_over P tn W (by omega) (by omega) d0 d1 (by omega))
        have HE3 : Hid (false = r) := Lib.hid (by
          cases r
          · rfl
          · have h := HE.out.1 rfl
            exact absurd (moved_fit h HGL.out) (far_out HGO.out HNE.out (by omega)))
        clear hv
        go_wp2_with fail
        (with_reducible refine (HML.out _).mono ?_)
        rintro e w5 ⟨rfl, rfl⟩
        go_upto_region 7 with fail
        go_quiet (fail)
        go_wp2
        go_returns
        exact ⟨ret_bool HE3.out, below_drewN HBB.out.bw _⟩
/-- An operation that defers nothing is carried out within a round as it is anywhere. -/
theorem opIn_round {n : Nat} {P : Program} {l : Nat} {o : Oper} (hnd : ∀ c, o.op ≠ .defer c) {a : Act} {w : World} {K : Act → World → Prop} {Q : Exit → Act → World → Prop} (h : o.wpIn Fence.wide n P a w K Q) : o.wpIn (Fence.wide.inRound l) n P a w K Q := by
  unfold Oper.wpIn at *
  refine ⟨h.1, ?_⟩
  have h2 := h.2
  show o.uponIn (Fence.wide.inRound l) n P a K Q ((o.semAt (some l) a.eval).run P w)
  rw [Oper.semAt_some l _ _ hnd]
  have e : o.semAt Fence.wide.round a.eval = execOp a.eval o := Oper.semAt_none ..
  rw [e] at h2
  generalize (execOp a.eval o).run P w = r at *
  cases r with
  | ok x w' => cases x <;> exact h2
  | halt x w' => cases x <;> exact h2
def undeferred (o : Oper) : Bool := match o.op with
  | .defer _ => false
  | _ => true
theorem undeferred_spec {o : Oper} (h : undeferred o = true) : ∀ c, o.op ≠ .defer c := by
  intro c e
  unfold undeferred at h
  rw [e] at h
  cases h
theorem anyIn_round {n : Nat} {P : Program} {l : Nat} {md : Region.Mode} {ops : Array Oper} {Q : Exit → Act → World → Prop} (hnd : ops.all undeferred = true) : ∀ (fuel : Nat) (listed : Array Bool) (a : Act) (w : World), wpAnyIn Fence.wide n P md ops Q fuel listed a w → wpAnyIn (Fence.wide.inRound l) n P md ops Q fuel listed a w := by
  intro fuel
  induction fuel with
  | zero => intro listed a w h; exact h
  | succ fuel ih =>
    intro listed a w h
    refine ⟨h.1, fun i hi => ?_⟩
    have h2 := wpOpIn_mono (fun a w => ih _ a w) (h.2 i hi)
    unfold wpOpIn at h2 ⊢
    cases e : ops[i]? with
    | none => rw [e] at h2; exact h2
    | some o =>
      rw [e] at h2
      have ho : undeferred o = true := by
        obtain ⟨hlt, rfl⟩ := Array.getElem?_eq_some_iff.1 e
        exact Array.all_eq_true.1 hnd i hlt
      dsimp only at h2 ⊢
      by_cases q : Region.wanted o (yielded ops a.tmps) = true
      · rw [if_pos q] at h2 ⊢; exact opIn_round (undeferred_spec ho) h2
      · rw [if_neg q] at h2 ⊢; exact h2
theorem drawn_round {n l id : Nat} {P : Program} {ops : Array Oper} {Q : Exit → Act → World → Prop} {a : Act} {w : World} (hm : P.follows .mixedOrders = true) (hnd : ops.all undeferred = true) (h : wpAnyIn Fence.wide n P .any ops Q ops.size (Array.replicate ops.size false) a w.drew) : (Code.region id ops true).wpIn (Fence.wide.inRound l) n P Q a w :=
  wpIn_region_any hm (anyIn_round hnd _ _ _ _ h)
theorem some_any (ao : Option Addr) (n c : Nat) (l : List Sp) (w : World) (hl : SpAt w ao n c l) (r : Bool) (hr : r = true ↔ l ≠ []) :
    Calls Try.prog 58 #[.slice ao n c] w fun e w' => e = .returned (.bool r) ∧ w' = w := by
  have h1 := hl.len
  have hmx : n ≤ 9223372036854775807 := Nat.le_trans hl.le hl.top
  have HR : Hid (r = true ↔ 0 < n) := Lib.hid (by rw [hr, ← h1]; exact List.length_pos_iff.symm)
  clear hr hl h1
  by_cases h : 0 < n
  · have HE : Hid (true = r) := Lib.hid (HR.out.2 h).symm
    have t1 : (0 : Int) < (n : Int) := by omega
    go_enter Try.func58, Try.ntmps58
    go_wp2
    go_returns
    exact ⟨ret_bool (by rw [← HE.out]; (first | done | rfl | (simp; done) | (simp; omega))), rfl⟩
  · have HE : Hid (false = r) := Lib.hid (by cases r; rfl; exact absurd (HR.out.1 rfl) h)
    have t1 : ¬ (0 : Int) < (n : Int) := by omega
    go_enter Try.func58, Try.ntmps58
    go_wp2
    go_returns
    exact ⟨ret_bool (by rw [← HE.out]; (first | done | rfl | (simp; done) | (simp; omega))), rfl⟩
set_option maxHeartbeats 1000000 in
theorem indexSome_any (co : Option Addr) (cn cc : Nat) (cs : List (List Sp)) (w : World) (hc : CoAt w co cn cc cs) :
    Calls Try.prog 81 #[.slice co cn cc, .func (.func 58) #[] #[]] w fun e w' => ∃ k : Int, e = .returned (.int .i64 k) ∧ Hid ((k < 0 ∧ ∀ l ∈ cs, l = []) ∨ (0 ≤ k ∧ ∃ l ∈ cs, l ≠ [])) ∧ Below w.heap.size w w' := by
  have HC := Lib.hid hc
  have LC := Lib.hid hc.len
  have hmx : cn ≤ 9223372036854775807 := Nat.le_trans hc.le hc.top
  clear hc
  go_enter Try.func81, Try.ntmps81
  go_wp2
  go_loopw [8] (fun ii wr => ∃ i : Nat, i ≤ cn ∧ ii = .int .i64 i ∧ Hid (∀ l ∈ cs.take i, l = []) ∧ Hid (Below w.heap.size w wr)) (fun ii _ => cn - (intOf ii).toNat)
  case atStart => exact ⟨0, Nat.zero_le _, rfl, Lib.hid (fun l h => by cases h), Lib.hid (Below.refl _ _)⟩
  case round =>
    obtain ⟨i, hi, rfl, HG, HW⟩ := hrel
    by_cases ilt : i < cn
    · have HCW := HC.out.keep HW.out
      obtain ⟨g, p, rfl, hc⟩ := HCW.here (by omega)
      have hil : i < cs.length := by rw [LC.out]; exact ilt
      obtain ⟨o, m, d, d1, d2⟩ := hc i hil
      obtain ⟨r, hr⟩ : ∃ r : Bool, r = true ↔ cs[i] ≠ [] := by classical exact ⟨decide _, decide_eq_true_iff⟩
      have HD := Lib.hid (fun W (h : Below wr.heap.size wr W) => some_any o m d cs[i] W (d2.keep h) r hr)
      have i0 : (0 : Int) ≤ (i : Int) := by omega
      have i1 : (i : Int) < (cn : Int) := by omega
      have HM := Lib.hid (List.getElem_mem hil)
      have HR := Lib.hid hr
      have HTS := Lib.hid (List.take_succ_eq_append_getElem hil)
      clear hc d2 hr HCW
      cases r
      · have HG2 : Hid (∀ l ∈ cs.take (i + 1), l = []) := Lib.hid (fun l hl => by
          rw [HTS.out] at hl
          rcases List.mem_append.1 hl with h | h
          · exact HG.out l h
          · rw [List.mem_singleton.1 h]
            exact Classical.byContradiction (fun z => by have := HR.out.2 z; cases this))
        clear HR HM HTS
        clear hil
        go_wp2_with fail
        (with_reducible refine (HD.out _ (Below.refl _ _)).mono ?_)
        rintro e w2 ⟨rfl, rfl⟩
        go_wp2
        go_roundw
        case rel => exact ⟨i + 1, by omega, by go_num, HG2, HW⟩
        case measure => simp [intOf]; omega
      · have HNO : Hid (∃ l ∈ cs, l ≠ []) := Lib.hid ⟨_, HM.out, HR.out.1 rfl⟩
        clear HR HM HTS
        clear hil
        go_wp2_with fail
        (with_reducible refine (HD.out _ (Below.refl _ _)).mono ?_)
        rintro e w2 ⟨rfl, rfl⟩
        go_wp2
        go_returns
        exact ⟨_, rfl, Lib.hid (.inr ⟨by omega, HNO.out⟩), HW.out⟩
    · obtain rfl : cn = i := by omega
      have HA : Hid (∀ l ∈ cs, l = []) := Lib.hid (by
        have h := HG.out
        rw [List.take_of_length_le (by rw [LC.out]; exact Nat.le_refl _)] at h
        exact h)
      go_wp2
      go_returns
      exact ⟨_, rfl, Lib.hid (.inl ⟨by omega, HA.out⟩), HW.out⟩
theorem containsSome_any (co : Option Addr) (cn cc : Nat) (cs : List (List Sp)) (w : World) (hc : CoAt w co cn cc cs) (r : Bool) (hr : r = true ↔ ∃ l ∈ cs, l ≠ []) :
    Calls Try.prog 57 #[.slice co cn cc, .func (.func 58) #[] #[]] w fun e w' => e = .returned (.bool r) ∧ Below w.heap.size w w' := by
  have K := Lib.hid (indexSome_any co cn cc cs w hc)
  have HR := Lib.hid hr
  clear hc hr
  go_enter Try.func57, Try.ntmps57
  go_wp2_with fail
  (with_reducible refine K.out.mono ?_)
  rintro e w1 ⟨k, rfl, HK, q⟩
  rcases HK.out with ⟨h1, h2⟩ | ⟨h1, h2⟩
  · have HE : Hid (r = false) := Lib.hid (by
      cases r
      · rfl
      · obtain ⟨l, hl, hn⟩ := HR.out.1 rfl
        exact absurd (h2 l hl) hn)
    have t1 : ¬ 0 ≤ k := by omega
    clear h2 HK
    go_wp2
    go_returns
    exact ⟨ret_bool (by rw [HE.out]; (first | done | (simp; done) | (simp; omega))), q⟩
  · have HE : Hid (r = true) := Lib.hid (HR.out.2 h2)
    clear h2 HK
    go_wp2
    go_returns
    exact ⟨ret_bool (by rw [HE.out]; (first | done | (simp; done) | (simp; omega))), q⟩
theorem divisors_any (n : Int) (w : World) : Calls Try.prog 59 #[.int .i64 n] w fun e w' => e = .returned (.func (.func 82) #[] #[.pointer (some ⟨w.heap.size, 0, none⟩)]) ∧ w' = w.alloc (.cells #[.int .i64 n] 3) := by
  go_enter Try.func59, Try.ntmps59
  go_wp2
  go_returns
  exact ⟨rfl, rfl⟩
section
attribute [local go_sem] Oper.semAt_some
/-- What lay below, and one box, lie as they lay. -/
structure Kd (n₀ x : Nat) (W W' : World) : Prop where
  below : Below n₀ W W'
  x_ : W'.heap[x]? = W.heap[x]?
theorem Kd.refl (n₀ x : Nat) (W : World) : Kd n₀ x W W := ⟨Below.refl _ _, rfl⟩
theorem Kd.trans {n₀ x : Nat} {A B C : World} (h : Kd n₀ x A B) (k : Kd n₀ x B C) : Kd n₀ x A C := ⟨h.below.trans k.below, k.x_.trans h.x_⟩
theorem Kd.keep {n₀ x : Nat} {A B : World} (hn : n₀ ≤ A.heap.size) (hx : x < A.heap.size) (h : Below A.heap.size A B) : Kd n₀ x A B := ⟨h.mono hn, h.block x hx⟩
/-- A divisor. -/
abbrev Dv (n : Nat) := { d : Nat // 0 < d ∧ d ≤ n ∧ n % d = 0 }
def dvs (n : Nat) (d : Dv n) : Array Value := #[.int .i64 (d.1 : Int)]
set_option maxRecDepth 100000 in
set_option maxHeartbeats 4000000 in
theorem divisors_in (m : Nat) (hm : 1 ≤ m) (l x n₀ : Nat) (n : Nat) (hn : n ≤ 1000000) (J Jx : List (Dv n) → World → Prop) (W : World)
    (hY : ∀ pre z W, J pre W → pre.length < n → YieldAt Fence.wide (m - 1) Try.prog l (dvs n z) W fun e W' =>
      (e = .returned (.bool true) ∧ J (pre ++ [z]) W' ∧ Kd n₀ x W W') ∨ (e = .returned (.bool false) ∧ Jx (pre ++ [z]) W'))
    (hJ : AbidesFrom W.heap.size J)
    (hk : ∀ W', Kd n₀ x W W' → W'.cell? ⟨x, 0, none⟩ = some (.int .i64 (n : Int))) (h0 : J [] W) :
    CallsIn Fence.wide m Try.prog 82 #[.func (.yield l) #[] #[], .pointer (some ⟨x, 0, none⟩)] W fun e W' => (∃ v, e = .returned v) ∧
      ((∃ xs, (∀ d : Dv n, d ∈ xs) ∧ J xs W') ∨ (∃ pre, (∃ pre' d, pre = pre' ++ [d] ∧ ∀ e : Dv n, e.1 < d.1 → e ∈ pre') ∧ Jx pre W')) := by
  have HK := Lib.hid hk
  have HY := Lib.hid hY
  have HJ := Lib.hid hJ
  clear hk hY hJ
  refine callsIn_of_wp Try.func82 rfl trivial ?_ rfl
  simp only [Try.ntmps82, List.size_toArray, List.length_cons, List.length_nil, Nat.reduceAdd, Nat.reduceSub, Array.replicate_succ, Array.replicate_zero, List.push_toArray, List.append_toArray, List.nil_append, List.cons_append]
  gi_wp2
  gi_loopw [3] (fun i wr => ∃ (pre : List (Dv n)) (d : Nat), i = .int .i64 (d : Int) ∧ 1 ≤ d ∧ d ≤ n + 1 ∧ Hid (∀ e : Dv n, e.1 < d → e ∈ pre) ∧ Hid (pre.length < d) ∧ Hid (J pre wr) ∧ Hid (Kd n₀ x W wr)) (fun i _ => n + 1 - (intOf i).toNat)
  case atStart => exact ⟨[], 1, rfl, by omega, by omega, Lib.hid (fun e h => by have := e.2.1; omega), Lib.hid (Nat.zero_lt_one), Lib.hid h0, Lib.hid (Kd.refl _ _ _)⟩
  case round =>
    obtain ⟨pre, d, rfl, d1, d2, HC, HL, HJ0, HB⟩ := hrel
    have c1 := HK.out _ HB.out
    by_cases hd : d ≤ n
    · have t1 : (d : Int) ≤ (n : Int) := by omega
      have t2 : ¬ d = 0 := by omega
      have t3 : ¬ (d : Int) = 0 := by omega
      have t4 : ((d : Int) == 0) = false := by simp; omega
      by_cases hr : n % d = 0
      · have t5 : (((n : Int) % (d : Int)) == 0) = true := by simp; omega
        have hz : 0 < d ∧ d ≤ n ∧ n % d = 0 := ⟨by omega, hd, hr⟩
        obtain ⟨fn, tmps, assign, body, hy, hR⟩ := HY.out pre ⟨d, hz⟩ wr HJ0.out (by have := HL.out; omega)
        have HRr := Lib.hid hR
        clear hR
        dsimp only [dvs] at hy
        have HC2 : Hid (∀ e : Dv n, e.1 < d + 1 → e ∈ pre ++ [⟨d, hz⟩]) := Lib.hid (fun e he => by
          by_cases q : e.1 < d
          · exact List.mem_append_left _ (HC.out e q)
          · have e1 : e.1 = d := by omega
            have e2 : e = ⟨d, hz⟩ := Subtype.ext e1
            rw [e2]; simp)
        gi_wp2
        refine HRr.out.mono ?_
        rintro e W3 (⟨rfl, hJ3, hk3⟩ | ⟨rfl, hJx3⟩)
        · have HJ3 := Lib.hid hJ3
          have HB3 := Lib.hid (HB.out.trans hk3)
          have HL3 : Hid ((pre ++ [(⟨d, hz⟩ : Dv n)]).length < d + 1) := Lib.hid (by have := HL.out; simp; omega)
          clear hy hJ3 hk3 HRr c1
          gi_wp2
          go_roundw
          case rel => exact ⟨_, d + 1, by go_num, by omega, by omega, HC2, HL3, HJ3, HB3⟩
          case measure => simp [intOf]; omega
        · have HJx3 := Lib.hid hJx3
          clear hy hJx3 HRr c1
          gi_wp2
          refine bodyPost_ret (results_none rfl _ _ _) rfl ?_
          exact ⟨⟨_, rfl⟩, .inr ⟨_, ⟨pre, ⟨d, hz⟩, rfl, HC.out⟩, HJx3.out⟩⟩
      · have t5 : (((n : Int) % (d : Int)) == 0) = false := by simp; omega
        have HC2 : Hid (∀ e : Dv n, e.1 < d + 1 → e ∈ pre) := Lib.hid (fun e he => by
          by_cases q : e.1 < d
          · exact HC.out e q
          · have e1 : e.1 = d := by omega
            have := e.2.2.2
            rw [e1] at this
            exact absurd this hr)
        have HL2 : Hid (pre.length < d + 1) := Lib.hid (by have := HL.out; omega)
        gi_wp2
        refine ⟨fun _ h => (by cases h), ?_⟩
        gi_wp2
        go_roundw
        case rel => exact ⟨_, d + 1, by go_num, by omega, by omega, HC2, HL2, HJ0, HB⟩
        case measure => simp [intOf]; omega
    · obtain rfl : d = n + 1 := by omega
      have HALL : Hid (∀ e : Dv n, e ∈ pre) := Lib.hid (fun e => HC.out e (by have := e.2.2.1; omega))
      have t1 : ¬ ((n + 1 : Nat) : Int) ≤ (n : Int) := by omega
      have t2 : decide (((n : Int) + 1) ≤ (n : Int)) = false := by simp; omega
      gi_wp2
      go_end0
      exact ⟨⟨_, rfl⟩, .inl ⟨pre, (by first | exact HALL.out | simpa using HALL.out), HJ0.out⟩⟩
end
end Go.Proofs.Ytmjapbjjfhmohaa
