/- E26, E27 in one. -/
import Derived.Test.YtimjendkpjojoaaGreatDoorKn
import Derived.Test.YtimjendkpjojoaaGreatDoorKo
namespace Go.Proofs.YtimjendkpjojoaaGreatDoor
set_option linter.unusedVariables false
set_option linter.unusedSimpArgs false
open Go.ChangeShapes Go.WideShapes Go.ChangeAt Go.RowKit
set_option maxHeartbeats 1000000 in
theorem sleq_any {w0 : World} {a b : Option Addr} {nn nc mm mc : Nat} {l l' : List Int} (w : World) (h1 : NAt w0 a nn nc l) (h2 : NAt w0 b mm mc l') (hw : Below w0.heap.size w0 w) (r : Bool) (hr : r = true ↔ l = l') :
    Calls Tryz.prog 27 #[.slice a nn nc, .slice b mm mc] w fun e w' => e = .returned (.bool r) ∧ Below w.heap.size w w' := by
  have HN1 := Lib.hid (h1.keep hw)
  have HN2 := Lib.hid (h2.keep hw)
  have HR := Lib.hid hr
  have n0 : (0 : Int) ≤ (nn : Int) := by omega
  have n1 : (nn : Int) ≤ 9223372036854775807 := by have := h1.le; have := h1.top; omega
  have m0 : (0 : Int) ≤ (mm : Int) := by omega
  have m1 : (mm : Int) ≤ 9223372036854775807 := by have := h2.le; have := h2.top; omega
  clear h1 h2 hr hw
  go_enter Tryz.func27, Tryz.ntmps27
  by_cases c1 : nn = mm
  · have t3 : ((nn : Int) != (mm : Int)) = false := by simp; omega
    go_upto_region 4 with fail
    go_loopw [5, 13] (fun s5 ii wr => ∃ (j : Nat), j ≤ nn ∧ ii = .int .i64 j ∧ Hid (∀ i, i < j → l[i]? = l'[i]?) ∧ Hid (Below w.heap.size w wr)) (fun s5 ii _ => nn - (intOf ii).toNat)
    case atStart => exact ⟨0, Nat.zero_le _, rfl, Lib.hid (fun i hi => absurd hi (Nat.not_lt_zero _)), Lib.hid (Below.refl _ _)⟩
    case round =>
      obtain ⟨j, hj, rfl, HA, HB⟩ := hrel
      have j0 : (0 : Int) ≤ (j : Int) := by omega
      by_cases jlt : j < nn
      · have j1 : (j : Int) < nn := by omega
        have j2 : (j : Int) < mm := by omega
        obtain ⟨q0, o, rfl, hx⟩ := HN1.out.here (by omega)
        have hx := hx j (by rw [HN1.out.len]; exact jlt)
        obtain ⟨q1, o9, rfl, hy⟩ := HN2.out.here (by omega)
        have hy := hy j (by rw [HN2.out.len]; omega)
        obtain ⟨x, hex⟩ : ∃ x, l[j]'(by rw [HN1.out.len]; exact jlt) = x := ⟨_, rfl⟩
        obtain ⟨y, hey⟩ : ∃ x, l'[j]'(by rw [HN2.out.len]; omega) = x := ⟨_, rfl⟩
        rw [hex] at hx
        rw [hey] at hy
        have HG1 : Hid (l[j]? = some x) := Lib.hid (by rw [List.getElem?_eq_getElem (by rw [HN1.out.len]; exact jlt), hex])
        have HG2 : Hid (l'[j]? = some y) := Lib.hid (by rw [List.getElem?_eq_getElem (by rw [HN2.out.len]; omega), hey])
        have g0 := cell_keep hx.1 HB.out
        have g1 := cell_keep hy.1 HB.out
        clear hx hy hex hey
        have HB2 := Lib.hid (HB.out.trans ((Below.refl _ wr).drew.mono HB.out.size))
        by_cases xy : x = y
        · have xt : (x != y) = false := by simp [xy]
          go_upto_region 6 with fail
          go_region
          clear g0 g1
          go_wp2
          go_roundw
          case rel => exact ⟨j + 1, by omega, by go_num, Lib.hid (fun i hi => by
            by_cases e : i < j
            · exact HA.out i e
            · obtain rfl : i = j := by omega
              rw [HG1.out, HG2.out, xy]), HB2⟩
          case measure => simp [intOf]; omega
        · have xt : (x != y) = true := by simp [xy]
          obtain rfl : r = false := by
            cases r
            · rfl
            · exfalso
              have a := HR.out.1 rfl
              have b1 := HG1.out
              rw [a, HG2.out] at b1
              injection b1 with b1
              exact xy b1.symm
          go_upto_region 6 with fail
          go_region
          clear g0 g1
          go_wp2
          go_returns
          exact ⟨rfl, HB2.out⟩
      · have j1 : (nn : Int) ≤ (j : Int) := by omega
        have HNE : l = l' := by
          apply List.ext_getElem?
          intro i
          by_cases hi : i < nn
          · exact HA.out i (by omega)
          · rw [List.getElem?_eq_none (by rw [HN1.out.len]; omega), List.getElem?_eq_none (by rw [HN2.out.len]; omega)]
        obtain rfl : r = true := HR.out.2 HNE
        clear HA HR
        go_wp2
        go_returns
        exact ⟨rfl, HB.out⟩
  · have t3 : ((nn : Int) != (mm : Int)) = true := by simp; omega
    obtain rfl : r = false := by
      cases r
      · rfl
      · exfalso
        have a := HR.out.1 rfl
        have b1 := HN1.out.len
        have b2 := HN2.out.len
        rw [a] at b1; omega
    go_wp2
    go_returns
    exact ⟨rfl, Below.refl _ _⟩
set_option maxHeartbeats 1000000 in
theorem eqf_of (n m : Nat) (aa ab : Option Addr) (k k' ac ad : Nat) (Fs Gs : List Tour) (w0 w : World) (hw : Below w0.heap.size w0 w) (hk : Fs.length = k) (hj : Gs.length = k') (ha : k ≤ ac) (ha' : ac ≤ 9223372036854775807) (hb : k' ≤ ad) (hb' : ad ≤ 9223372036854775807)
    (hc : 0 < k → ∃ b q, aa = some (⟨b, q, none⟩ : Addr) ∧ ∀ i (h : i < Fs.length), ∃ x0 x1 x2 x3, w0.cell? ⟨b, q + i * 4, none⟩ = some x0 ∧ w0.cell? ⟨b, q + i * 4 + 1, none⟩ = some x1 ∧ w0.cell? ⟨b, q + i * 4 + 2, none⟩ = some x2 ∧ w0.cell? ⟨b, q + i * 4 + 3, none⟩ = some x3 ∧ ExAt w0 n (.agg #[x0, x1, x2, x3]) Fs[i])
    (hd : 0 < k' → ∃ b q, ab = some (⟨b, q, none⟩ : Addr) ∧ ∀ i (h : i < Gs.length), ∃ x0 x1 x2 x3, w0.cell? ⟨b, q + i * 4, none⟩ = some x0 ∧ w0.cell? ⟨b, q + i * 4 + 1, none⟩ = some x1 ∧ w0.cell? ⟨b, q + i * 4 + 2, none⟩ = some x2 ∧ w0.cell? ⟨b, q + i * 4 + 3, none⟩ = some x3 ∧ ExAt w0 m (.agg #[x0, x1, x2, x3]) Gs[i])
    (ih : ∀ v F v' G w, ExAt w n v F → ExAt w m v' G → ∀ (r : Bool), (r = true ↔ F = G) → Calls Tryz.prog 11 #[v, v'] w fun e w' => e = .returned (.bool r) ∧ Below w.heap.size w w')
    (r : Bool) (hr : r = true ↔ Fs = Gs) :
    Calls Tryz.prog 28 #[.slice aa k ac, .slice ab k' ad, .func (.func 11) #[] #[]] w fun e w' => e = .returned (.bool r) ∧ Below w.heap.size w w' := by
  have HC := Lib.hid hc
  have HD := Lib.hid hd
  have HK := Lib.hid hk
  have HJ := Lib.hid hj
  have HW := Lib.hid hw
  have HR := Lib.hid hr
  have IH := Lib.hid ih
  have n0 : (0 : Int) ≤ (k : Int) := by omega
  have n1 : (k : Int) ≤ 9223372036854775807 := by omega
  have m0 : (0 : Int) ≤ (k' : Int) := by omega
  have m1 : (k' : Int) ≤ 9223372036854775807 := by omega
  clear hc hd hk hj hr hw ih
  go_enter Tryz.func28, Tryz.ntmps28
  by_cases c1 : k = k'
  · subst c1
    have t3 : ((k : Int) != (k : Int)) = false := by simp
    go_upto_region 4 with fail
    go_loopw [7, 8, 9, 17] (fun s7 s8 s9 ii wr => ∃ (j : Nat), j ≤ k ∧ ii = .int .i64 j ∧ Hid (∀ i, i < j → Fs[i]? = Gs[i]?) ∧ Hid (Below w.heap.size w wr)) (fun _ _ _ ii _ => k - (intOf ii).toNat)
    case atStart => exact ⟨0, Nat.zero_le _, rfl, Lib.hid (fun i hi => absurd hi (Nat.not_lt_zero _)), Lib.hid (Below.refl _ _)⟩
    case round =>
      obtain ⟨j, hj, rfl, HA, HB⟩ := hrel
      have j0 : (0 : Int) ≤ (j : Int) := by omega
      by_cases jlt : j < k
      · have j1 : (j : Int) < k := by omega
        skip
        obtain ⟨q0, o, rfl, hx⟩ := HC.out (by omega)
        obtain ⟨x0, x1, x2, x3, g0, g1, g2, g3, hr⟩ := hx j (by rw [HK.out]; exact jlt)
        obtain ⟨q1, o1, rfl, hy⟩ := HD.out (by omega)
        obtain ⟨y0, y1, y2, y3, h0, h1, h2, h3, hs⟩ := hy j (by rw [HJ.out]; omega)
        obtain ⟨p2, an2, nn2, nc2, aa2, ac2, ex, hh2⟩ := hr.head
        cases ex
        obtain ⟨p3, an3, nn3, nc3, aa3, ac3, ex, hh3⟩ := hs.head
        cases ex
        obtain ⟨G, hG⟩ : ∃ G : Tour, Fs[j]'(by rw [HK.out]; exact jlt) = G := ⟨_, rfl⟩
        obtain ⟨G', hG'⟩ : ∃ G : Tour, Gs[j]'(by rw [HJ.out]; omega) = G := ⟨_, rfl⟩
        rw [hG] at hr
        rw [hG'] at hs
        have HG1 : Hid (Fs[j]? = some G) := Lib.hid (by rw [List.getElem?_eq_getElem (by rw [HK.out]; exact jlt), hG])
        have HG2 : Hid (Gs[j]? = some G') := Lib.hid (by rw [List.getElem?_eq_getElem (by rw [HJ.out]; omega), hG'])
        have HB0 := Lib.hid (HW.out.trans (HB.out.mono HW.out.size))
        obtain ⟨b, hb⟩ : ∃ z, wr.heap.size = z := ⟨_, rfl⟩
        obtain ⟨w2, hw2⟩ : ∃ z, wr.alloc (.cells #[.int .u8 p2.op, .string p2.nm, .slice an2 nn2 nc2, .slice aa2 p2.k ac2] 25) = z := ⟨_, rfl⟩
        have hb2 : w2.heap.size = b + 1 := by rw [← hw2]; simp; omega
        obtain ⟨w3, hw3⟩ : ∃ z, w2.alloc (.cells #[.int .u8 p3.op, .string p3.nm, .slice an3 nn3 nc3, .slice aa3 p3.k ac3] 25) = z := ⟨_, rfl⟩
        have HB2 := Lib.hid (show Below wr.heap.size wr w2 by rw [← hw2]; exact (Below.refl _ wr).alloc (Nat.le_refl _) _)
        have HB3 := Lib.hid (show Below w2.heap.size w2 w3 by rw [← hw3]; exact (Below.refl _ w2).alloc (Nat.le_refl _) _)
        have HX1 := Lib.hid (show w3.heap[b]? = some (.cells #[.int .u8 p2.op, .string p2.nm, .slice an2 nn2 nc2, .slice aa2 p2.k ac2] 25 (0, 0)) by rw [← hw3, al_old _ _ (by omega), ← hw2, ← hb, al_new])
        have HX2 := Lib.hid (show w3.heap[b + 1]? = some (.cells #[.int .u8 p3.op, .string p3.nm, .slice an3 nn3 nc3, .slice aa3 p3.k ac3] 25 (0, 0)) by rw [← hw3, ← hb2, al_new])
        have g0 := cell_keep g0 HB0.out
        have g1 := cell_keep g1 HB0.out
        have g2 := cell_keep g2 HB0.out
        have g3 := cell_keep g3 HB0.out
        have h0 := cell_keep (cell_keep h0 HB0.out) HB2.out
        have h1 := cell_keep (cell_keep h1 HB0.out) HB2.out
        have h2 := cell_keep (cell_keep h2 HB0.out) HB2.out
        have h3 := cell_keep (cell_keep h3 HB0.out) HB2.out
        have e0 := cell_blk HX1.out 0
        have e1 := cell_blk HX1.out 1
        have e2 := cell_blk HX1.out 2
        have e3 := cell_blk HX1.out 3
        have f0 := cell_blk HX2.out 0
        have f1 := cell_blk HX2.out 1
        have f2 := cell_blk HX2.out 2
        have f3 := cell_blk HX2.out 3
        have HB4 := Lib.hid (HB2.out.trans (HB3.out.mono HB2.out.size))
        obtain ⟨r2, hr2⟩ : ∃ r2 : Bool, r2 = true ↔ G = G' := by classical exact ⟨decide _, decide_eq_true_iff⟩
        have HIH := Lib.hid (IH.out _ G _ G' w3 (hr.keep (HB0.out.trans (HB4.out.mono HB0.out.size))) (hs.keep (HB0.out.trans (HB4.out.mono HB0.out.size))) r2 hr2)
        have HR2 := Lib.hid hr2
        clear hr hs hx hy hh2 hh3 hG hG' hr2
        go_wp2_with fail
        (with_reducible refine HIH.out.mono ?_)
        rintro e w5 ⟨rfl, q⟩
        have HB5 := Lib.hid ((HB.out.trans (HB4.out.mono HB.out.size)).trans (q.mono ((HB.out.trans (HB4.out.mono HB.out.size)).size)))
        clear q HIH g0 g1 g2 g3 h0 h1 h2 h3 e0 e1 e2 e3 f0 f1 f2 f3 HX1 HX2 hw2 hw3 hb hb2
        cases r2
        · obtain rfl : r = false := by
            cases r
            · rfl
            · exfalso
              have a := HR.out.1 rfl
              have b1 := HG1.out
              rw [a, HG2.out] at b1
              injection b1 with b1
              have a := HR2.out
              simp [b1] at a
          go_wp2
          go_returns
          exact ⟨rfl, HB5.out⟩
        · have HGG : Hid (G = G') := Lib.hid (by have a := HR2.out; simpa using a)
          go_wp2
          go_roundw
          case rel => exact ⟨j + 1, by omega, by go_num, Lib.hid (fun i hi => by
            by_cases e : i < j
            · exact HA.out i e
            · obtain rfl : i = j := by omega
              rw [HG1.out, HG2.out, HGG.out]), HB5⟩
          case measure => simp [intOf]; omega
      · have j1 : (k : Int) ≤ (j : Int) := by omega
        have HNE : Fs = Gs := by
          apply List.ext_getElem?
          intro i
          by_cases hi : i < k
          · exact HA.out i (by omega)
          · rw [List.getElem?_eq_none (by rw [HK.out]; omega), List.getElem?_eq_none (by rw [HJ.out]; omega)]
        obtain rfl : r = true := HR.out.2 HNE
        clear HA HR
        go_wp2
        go_returns
        exact ⟨rfl, HB.out⟩
  · have t3 : ((k : Int) != (k' : Int)) = true := by simp; omega
    obtain rfl : r = false := by
      cases r
      · rfl
      · exfalso
        have a := HR.out.1 rfl
        have b1 := HK.out
        have b2 := HJ.out
        rw [a] at b1; omega
    go_wp2
    go_returns
    exact ⟨rfl, Below.refl _ _⟩
set_option maxRecDepth 8000 in
set_option maxHeartbeats 4000000 in
theorem same_any : ∀ (n : Nat) (v : Value) (F : Tour) (m : Nat) (v' : Value) (G : Tour) (w : World), ExAt w n v F → ExAt w m v' G → ∀ (r : Bool), (r = true ↔ F = G) → Calls Tryz.prog 11 #[v, v'] w fun e w' => e = .returned (.bool r) ∧ Below w.heap.size w w'
  | 0, _, _, _, _, _, _, h, _, _, _ => h.elim
  | _ + 1, _, _, 0, _, _, _, _, h, _, _ => h.elim
  | n + 1, v, F, m + 1, v', G, w, h, h', r, hr0 => by
    have IH := (fun v F v' G w h h' r hr => same_any n v F m v' G w h h' r hr)
    obtain ⟨p, an, nn, nc, aa, ac, Fs, rfl, hh, hk, rfl, hc⟩ := h
    obtain ⟨q, am, mm, mc, ab, ad, Gs, rfl, hg, hj, rfl, hd⟩ := h'
    unfold pv
    have HR := Lib.hid (hr0.trans (same_iff hk hj (exs_of hk hc) (exs_of hj hd)))
    obtain ⟨r1, hr1⟩ : ∃ r1 : Bool, r1 = true ↔ p.nums = q.nums := by classical exact ⟨decide _, decide_eq_true_iff⟩
    obtain ⟨r2, hr2⟩ : ∃ r2 : Bool, r2 = true ↔ Fs = Gs := by classical exact ⟨decide _, decide_eq_true_iff⟩
    have HR1 := Lib.hid hr1
    have HR2 := Lib.hid hr2
    have HS1 := Lib.hid (fun W (hW : Below w.heap.size w W) => sleq_any W hh.nums hg.nums hW r1 hr1)
    have HS2 := Lib.hid (fun W (hW : Below w.heap.size w W) => eqf_of n m aa ab p.k q.k ac ad Fs Gs w W hW hk hj hh.le hh.top hg.le hg.top hc hd IH r2 hr2)
    have HL : Hid (Fs = Gs → p.k = q.k) := Lib.hid (fun e => by rw [← hk, ← hj, e])
    obtain ⟨b, hb⟩ : ∃ z, w.heap.size = z := ⟨_, rfl⟩
    obtain ⟨w1, hw1⟩ : ∃ z, (w.alloc (.cells #[.int .u8 p.op, .string p.nm, .slice an nn nc, .slice aa p.k ac] 25)).alloc (.cells #[.int .u8 q.op, .string q.nm, .slice am mm mc, .slice ab q.k ad] 25) = z := ⟨_, rfl⟩
    have HX : Hid (Bx2 w w1 b #[.int .u8 p.op, .string p.nm, .slice an nn nc, .slice aa p.k ac] #[.int .u8 q.op, .string q.nm, .slice am mm mc, .slice ab q.k ad]) := Lib.hid ⟨by rw [← hw1]; exact ((Below.refl _ w).alloc (Nat.le_refl _) _).alloc (by simp) _, by rw [← hw1, al_old _ _ (by simp; omega), ← hb, al_new], by rw [← hw1, show b + 1 = (w.alloc (.cells #[.int .u8 p.op, .string p.nm, .slice an nn nc, .slice aa p.k ac] 25)).heap.size by simp; omega, al_new]⟩
    have hb1 : (w.alloc (.cells #[.int .u8 p.op, .string p.nm, .slice an nn nc, .slice aa p.k ac] 25)).heap.size = b + 1 := by simp; omega
    clear hc hk hd hj hr0 hh hg hr1 hr2 IH
    have e0 := cell_blk HX.out.b1 0
    have e1 := cell_blk HX.out.b1 1
    have e2 := cell_blk HX.out.b1 2
    have e3 := cell_blk HX.out.b1 3
    have f0 := cell_blk HX.out.b2 0
    have f1 := cell_blk HX.out.b2 1
    have f2 := cell_blk HX.out.b2 2
    have f3 := cell_blk HX.out.b2 3
    go_enter Tryz.func11, Tryz.ntmps11
    go_upto_region 1 with fail
    clear hw1 hb hb1
    by_cases o1 : p.op = q.op
    · have t1 : (p.op == q.op) = true := by simp [o1]
      by_cases n1e : p.nm = q.nm
      · have t2 : p.nm.toList = q.nm.toList := (nm_inj _ _).2 n1e
        go_wp2_with fail
        (with_reducible refine (HS1.out _ HX.out.bw).mono ?_)
        rintro e w2 ⟨rfl, q1⟩
        have HX := Lib.hid (HX.out.keep q1)
        clear q1 HS1 e0 e1 e2 e3 f0 f1 f2 f3
        cases r1
        · obtain rfl : r = false := by
            cases r
            · rfl
            · have a := (HR.out.1 rfl).2.2.1
              have b := HR1.out
              simp [a] at b
          go_wp2
          go_returns
          exact ⟨rfl, HX.out.bw⟩
        · have HNE : Hid (p.nums = q.nums) := Lib.hid (by have a := HR1.out; simpa using a)
          have e0 := cell_blk HX.out.b1 0
          have e1 := cell_blk HX.out.b1 1
          have e2 := cell_blk HX.out.b1 2
          have e3 := cell_blk HX.out.b1 3
          have f0 := cell_blk HX.out.b2 0
          have f1 := cell_blk HX.out.b2 1
          have f2 := cell_blk HX.out.b2 2
          have f3 := cell_blk HX.out.b2 3
          go_wp2_with fail
          (with_reducible refine (HS2.out _ HX.out.bw).mono ?_)
          rintro e w3 ⟨rfl, q1⟩
          have HX := Lib.hid (HX.out.keep q1)
          clear q1 HS2 e0 e1 e2 e3 f0 f1 f2 f3
          obtain rfl : r = r2 := by
            have a := HR.out
            have b := HR2.out
            cases r
            · cases r2
              · rfl
              · have c := b.1 rfl
                have d := a.2 ⟨o1, n1e, HNE.out, HL.out c, c⟩
                cases d
            · exact (b.2 (a.1 rfl).2.2.2.2).symm
          clear HR HR2
          go_wp2
          go_returns
          exact ⟨rfl, HX.out.bw⟩
      · have t2 : ¬ p.nm.toList = q.nm.toList := fun e => n1e ((nm_inj _ _).1 e)
        have t2b : (p.nm.toList == q.nm.toList) = false := by simpa using t2
        obtain rfl : r = false := by
          cases r
          · rfl
          · exact absurd (HR.out.1 rfl).2.1 (by exact n1e)
        go_wp2
        go_returns
        exact ⟨rfl, HX.out.bw⟩
    · have t1 : (p.op == q.op) = false := by simp [o1]
      obtain rfl : r = false := by
        cases r
        · rfl
        · exact absurd (HR.out.1 rfl).1 (by exact o1)
      go_wp2
      go_returns
      exact ⟨rfl, HX.out.bw⟩
end Go.Proofs.YtimjendkpjojoaaGreatDoor
