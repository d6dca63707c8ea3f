/- Contract: awake. -/
import Derived.Test.YtijpejjkbioekaaW3
namespace Go.Proofs.Ytijpejjkbioekaa
set_option linter.unusedVariables false
set_option linter.unusedSimpArgs false
open Go.ChangeShapes Go.WideShapes Go.ChangeAt Go.RowKit
theorem at_mk {P N : Int} {co oo : Option Addr} {cn cc on oc : Nat} {cs : List (List Sp)} {os : List Gr} {w : World} (h : (-9223372036854775808 ≤ P ∧ P ≤ 9223372036854775807) ∧ -9223372036854775808 ≤ N ∧ N ≤ 9223372036854775807) (hc : CoAt w co cn cc cs) (ho : OdAt w oo on oc os) (h1 : ∀ l ∈ cs, l.length ≤ 10000000000000) (h2 : ∀ o ∈ os, o.2.length ≤ 10000000000000) : Fv.At ⟨P, N, co, cn, cc, oo, on, oc, cs, os⟩ w := ⟨h.1.1, h.1.2, h.2.1, h.2.2, hc, ho, h1, h2⟩
theorem odAt_nil (w : World) : OdAt w none 0 0 [] := ⟨rfl, Nat.le_refl _, by decide, fun _ => ⟨rfl, rfl⟩, fun h => absurd h (Nat.lt_irrefl _)⟩
theorem coAt_nil (w : World) : CoAt w none 0 0 [] := ⟨rfl, Nat.le_refl _, by decide, fun _ => ⟨rfl, rfl⟩, fun h => absurd h (Nat.lt_irrefl _)⟩
theorem sh04 : ∀ l ∈ [[((0 : Int), (4 : Int))]], l.length ≤ 10000000000000 := fun l hl => by simp at hl; subst hl; decide
theorem sh1 (i x y : Int) : ∀ o ∈ [(i, [(x, y)])], o.2.length ≤ 10000000000000 := fun o ho => by simp at ho; subst ho; simp
/-- The exception of the example, stored. -/
theorem la_some {w0 w1 w : World} {b g1 g2 : Nat} {co : Option Addr} {cc : Nat} (hc : CoAt w1 co 1 cc [[(0, 4)]]) (hb : w1.heap.size = b) (k1 : Below w1.heap.size w1 w) (h : La (weeksF 7 [] co cc none 0) w0 w b) (e1 : w.heap.size = g1) (e2 : g1 + 1 = g2) :
    La (weeksF 7 [(1, [(8, 11)])] co cc (some ⟨g2, 0, none⟩) 1) w0 (((w.alloc (.cells #[.int .i64 8, .int .i64 11] 43)).alloc (.cells #[.int .i64 1, .slice (some ⟨g1, 0, none⟩) 1 1] 45)).setCell ⟨b, 3, none⟩ (.slice (some ⟨g2, 0, none⟩) 1 1)) b ∧
    Below w1.heap.size w1 (((w.alloc (.cells #[.int .i64 8, .int .i64 11] 43)).alloc (.cells #[.int .i64 1, .slice (some ⟨g1, 0, none⟩) 1 1] 45)).setCell ⟨b, 3, none⟩ (.slice (some ⟨g2, 0, none⟩) 1 1)) := by
  have hlt := h.lt
  have k2 : Below w.heap.size w ((w.alloc (.cells #[.int .i64 8, .int .i64 11] 43)).alloc (.cells #[.int .i64 1, .slice (some ⟨g1, 0, none⟩) 1 1] 45)) := ((Below.refl _ w).alloc (Nat.le_refl _) _).alloc (by simp) _
  have h2 := h.keep k2
  have q1 : ((w.alloc (.cells #[.int .i64 8, .int .i64 11] 43)).alloc (.cells #[.int .i64 1, .slice (some ⟨g1, 0, none⟩) 1 1] 45)).heap[g1]? = some (.cells #[.int .i64 8, .int .i64 11] 43 (0, 0)) := by
    rw [heap_alloc_old _ _ (by simp; omega)]; exact heap_at e1
  have q2 : ((w.alloc (.cells #[.int .i64 8, .int .i64 11] 43)).alloc (.cells #[.int .i64 1, .slice (some ⟨g1, 0, none⟩) 1 1] 45)).heap[g2]? = some (.cells #[.int .i64 1, .slice (some ⟨g1, 0, none⟩) 1 1] 45 (0, 0)) := heap_at (by simp; omega)
  have hg := grown_cell ((w.alloc (.cells #[.int .i64 8, .int .i64 11] 43)).alloc (.cells #[.int .i64 1, .slice (some ⟨g1, 0, none⟩) 1 1] 45)) ⟨b, 3, none⟩ (.slice (some ⟨g2, 0, none⟩) 1 1)
  have k3 : Below w1.heap.size w1 _ := (k1.trans (k2.mono k1.size)).setCell (p := ⟨b, 3, none⟩) (Nat.le_of_eq hb) (.slice (some ⟨g2, 0, none⟩) 1 1)
  refine ⟨⟨at_mk (by decide) (hc.keep k3) (odAt_of (g1 := g1) (g2 := g2) ?_ ?_ ⟨by decide, by decide⟩) sh04 (sh1 _ _ _), ?_, h.lo, h2.bw.setCell (p := ⟨b, 3, none⟩) h.lo _⟩, k3⟩
  · exact (hg.block g1 (by simp; omega) (fun e => by have : g1 = b := Option.some.inj e; omega)).trans q1
  · exact (hg.block g2 (by simp; omega) (fun e => by have : g2 = b := Option.some.inj e; omega)).trans q2
  · rw [set_block h2.blk]; rfl
/-- The period of the example's bad form, stored. -/
theorem la_bad {w0 w1 w : World} {b : Nat} {co : Option Addr} {cc : Nat} (hc : CoAt w1 co 1 cc [[(0, 4)]]) (hb : w1.heap.size = b) (k1 : Below w1.heap.size w1 w) (h : La (weeksF 7 [] co cc none 0) w0 w b) :
    La (weeksF 4 [] co cc none 0) w0 (w.setCell ⟨b, 0, none⟩ (.int .i64 4)) b ∧ Below w1.heap.size w1 (w.setCell ⟨b, 0, none⟩ (.int .i64 4)) := by
  have k3 : Below w1.heap.size w1 _ := k1.setCell (p := ⟨b, 0, none⟩) (Nat.le_of_eq hb) (.int .i64 4)
  refine ⟨⟨at_mk (by decide) (hc.keep k3) (odAt_nil _) sh04 (fun o ho => by cases ho), ?_, h.lo, h.bw.setCell (p := ⟨b, 0, none⟩) h.lo _⟩, k3⟩
  rw [set_block h.blk]; rfl
theorem at_weeks {w : World} {co : Option Addr} {cc : Nat} (hc : CoAt w co 1 cc [[(0, 4)]]) : (weeksF 7 [] co cc none 0).At w :=
  at_mk (by decide) hc (odAt_nil _) sh04 (fun o ho => by cases ho)
theorem la_alone {w0 w : World} {b g1 g2 : Nat} (hb : Below w0.heap.size w0 w) (e1 : w.heap.size = g1) (e2 : g1 + 1 = g2) (e3 : g2 + 1 = b) :
    La (aloneF (some ⟨g2, 0, none⟩) 1) w0 (((w.alloc (.cells #[.int .i64 5, .int .i64 6] 43)).alloc (.cells #[.int .i64 3, .slice (some ⟨g1, 0, none⟩) 1 1] 45)).alloc (.cells (aloneF (some ⟨g2, 0, none⟩) 1).box 25)) b := by
  have k2 : Below w.heap.size w ((w.alloc (.cells #[.int .i64 5, .int .i64 6] 43)).alloc (.cells #[.int .i64 3, .slice (some ⟨g1, 0, none⟩) 1 1] 45)) := ((Below.refl _ w).alloc (Nat.le_refl _) _).alloc (by simp) _
  refine la_new (at_mk (by decide) (coAt_nil _) (odAt_of (g1 := g1) (g2 := g2) ?_ ?_ ⟨by decide, by decide⟩) (fun l hl => by cases hl) (sh1 _ _ _)) (by simp; omega) (hb.trans (k2.mono hb.size))
  · rw [heap_alloc_old _ _ (by simp; omega)]; exact heap_at e1
  · exact heap_at (by simp; omega)
set_option maxRecDepth 8000 in
set_option maxHeartbeats 4000000 in
theorem awake_any (w : World) : Calls Try.prog 8 #[] w fun e w' => e = .returned (.bool true) ∧ Below w.heap.size w w' := by
  have HWK : Hid (∀ W, Calls Try.prog 22 #[] W fun e w' => ∃ co cc, e = .returned (.agg #[.int .i64 7, .int .i64 1, .slice co 1 cc, .slice none 0 0]) ∧ Hid (CoAt w' co 1 cc [[(0, 4)]]) ∧ Below W.heap.size W w') := Lib.hid (fun W => weeks_any W)
  go_enter Try.func8, Try.ntmps8
  go_wp2_with fail
  (with_reducible refine (HWK.out _).mono ?_)
  rintro e w1 ⟨co, cc, rfl, hc, q⟩
  obtain ⟨b1, hb1⟩ : ∃ q, w1.heap.size = q := ⟨_, rfl⟩
  have HCW := hc
  have HB1 := Lib.hid hb1
  have HA : Hid (La (weeksF 7 [] co cc none 0) w (w1.alloc (.cells #[.int .i64 7, .int .i64 1, .slice co 1 cc, .slice none 0 0] 25)) b1) := Lib.hid (la_new (at_weeks hc.out) hb1 q)
  have HK1 := Lib.hid ((Below.refl _ w1).alloc (Nat.le_refl _) (.cells #[.int .i64 7, .int .i64 1, .slice co 1 cc, .slice none 0 0] 25))
  go_upto_region 2 with fail
  generalize hw2 : w1.alloc (.cells #[.int .i64 7, .int .i64 1, .slice co 1 cc, .slice none 0 0] 25) = w2
  rw [hw2] at HA HK1
  clear hw2 hb1 q hc
  have x0 : w2.cell? ⟨b1, 0, none⟩ = some (.int .i64 7) := HA.out.cell 0
  have x1 : w2.cell? ⟨b1, 1, none⟩ = some (.int .i64 1) := HA.out.cell 1
  have x2 : w2.cell? ⟨b1, 2, none⟩ = some (.slice co 1 cc) := HA.out.cell 2
  have x3 : w2.cell? ⟨b1, 3, none⟩ = some (.slice none 0 0) := HA.out.cell 3
  have HCT : Hid (Calls Try.prog 21 #[.agg #[.int .i64 7, .int .i64 1, .slice co 1 cc, .slice none 0 0]] w2 fun e w' => e = .returned (.int .i64 0) ∧ Below w2.heap.size w2 w') := Lib.hid (right_yes (weeksF 7 [] co cc none 0) w2 HA.out.at_ (small_weeks _ _ _ _ _ _ (.inl rfl)) (rt_weeks co cc none 0))
  go_wp2_with fail
  (with_reducible refine HCT.out.mono ?_)
  rintro e w3 ⟨rfl, q⟩
  have HA := Lib.hid (HA.out.keep q)
  have HK1 := Lib.hid (HK1.out.trans (q.mono HK1.out.size))
  clear q HCT x0 x1 x2 x3
  have HGG := gr_w0 co cc none 0 [] rfl
  have x0 : w3.cell? ⟨b1, 0, none⟩ = some (.int .i64 7) := HA.out.cell 0
  have x1 : w3.cell? ⟨b1, 1, none⟩ = some (.int .i64 1) := HA.out.cell 1
  have x2 : w3.cell? ⟨b1, 2, none⟩ = some (.slice co 1 cc) := HA.out.cell 2
  have x3 : w3.cell? ⟨b1, 3, none⟩ = some (.slice none 0 0) := HA.out.cell 3
  have HCT : Hid (Calls Try.prog 23 #[.agg #[.int .i64 7, .int .i64 1, .slice co 1 cc, .slice none 0 0], .int .i64 0, .int .i64 0, .int .i64 4] w3 fun e w' => e = .returned (.bool true) ∧ Below w3.heap.size w3 w') := Lib.hid (gets_yes (weeksF 7 [] co cc none 0) 0 0 4 w3 HA.out.at_ ((rt_weeks co cc none 0).ok (small_weeks _ _ _ _ _ _ (.inl rfl))) ⟨⟨by decide, by decide⟩, by rw [HGG]; exact fit_good (by simp [Good, Rt])⟩ HGG (by decide))
  go_wp2_with fail
  (with_reducible refine HCT.out.mono ?_)
  rintro e w4 ⟨rfl, q⟩
  have HA := Lib.hid (HA.out.keep q)
  have HK1 := Lib.hid (HK1.out.trans (q.mono HK1.out.size))
  clear q HCT x0 x1 x2 x3
  clear HGG
  have HGG := gr_wm co cc none 0
  have x0 : w4.cell? ⟨b1, 0, none⟩ = some (.int .i64 7) := HA.out.cell 0
  have x1 : w4.cell? ⟨b1, 1, none⟩ = some (.int .i64 1) := HA.out.cell 1
  have x2 : w4.cell? ⟨b1, 2, none⟩ = some (.slice co 1 cc) := HA.out.cell 2
  have x3 : w4.cell? ⟨b1, 3, none⟩ = some (.slice none 0 0) := HA.out.cell 3
  have HCT : Hid (Calls Try.prog 23 #[.agg #[.int .i64 7, .int .i64 1, .slice co 1 cc, .slice none 0 0], .int .i64 (-1), .int .i64 (-7), .int .i64 (-3)] w4 fun e w' => e = .returned (.bool true) ∧ Below w4.heap.size w4 w') := Lib.hid (gets_yes (weeksF 7 [] co cc none 0) (-1) (-7) (-3) w4 HA.out.at_ ((rt_weeks co cc none 0).ok (small_weeks _ _ _ _ _ _ (.inl rfl))) ⟨⟨by decide, by decide⟩, by rw [HGG]; exact fit_good (by simp [Good, Rt])⟩ HGG (by decide))
  go_wp2_with fail
  (with_reducible refine HCT.out.mono ?_)
  rintro e w5 ⟨rfl, q⟩
  have HA := Lib.hid (HA.out.keep q)
  have HK1 := Lib.hid (HK1.out.trans (q.mono HK1.out.size))
  clear q HCT x0 x1 x2 x3
  clear HGG
  have x0 : w5.cell? ⟨b1, 0, none⟩ = some (.int .i64 7) := HA.out.cell 0
  have x1 : w5.cell? ⟨b1, 1, none⟩ = some (.int .i64 1) := HA.out.cell 1
  have x2 : w5.cell? ⟨b1, 2, none⟩ = some (.slice co 1 cc) := HA.out.cell 2
  have x3 : w5.cell? ⟨b1, 3, none⟩ = some (.slice none 0 0) := HA.out.cell 3
  have HCT : Hid (Calls Try.prog 24 #[.agg #[.int .i64 7, .int .i64 1, .slice co 1 cc, .slice none 0 0]] w5 fun e w' => e = .returned (.int .i64 1) ∧ Below w5.heap.size w5 w') := Lib.hid (size_any (weeksF 7 [] co cc none 0) w5 HA.out.at_ (show 1 ≤ 100000 by decide) (show 0 ≤ 100000 by decide))
  go_wp2_with fail
  (with_reducible refine HCT.out.mono ?_)
  rintro e w6 ⟨rfl, q⟩
  have HA := Lib.hid (HA.out.keep q)
  have HK1 := Lib.hid (HK1.out.trans (q.mono HK1.out.size))
  clear q HCT x0 x1 x2 x3
  have x0 : w6.cell? ⟨b1, 0, none⟩ = some (.int .i64 7) := HA.out.cell 0
  have x1 : w6.cell? ⟨b1, 1, none⟩ = some (.int .i64 1) := HA.out.cell 1
  have x2 : w6.cell? ⟨b1, 2, none⟩ = some (.slice co 1 cc) := HA.out.cell 2
  have x3 : w6.cell? ⟨b1, 3, none⟩ = some (.slice none 0 0) := HA.out.cell 3
  have f3 := HA.out.free 3
  obtain ⟨g1, hg1⟩ : ∃ q, w6.heap.size = q := ⟨_, rfl⟩
  obtain ⟨g2, hg2⟩ : ∃ q, g1 + 1 = q := ⟨_, rfl⟩
  have HPA := la_some HCW.out HB1.out HK1.out HA.out hg1 hg2
  have HAL := Lib.hid (HA.out.keep (((Below.refl _ w6).alloc (Nat.le_refl _) (.cells #[.int .i64 8, .int .i64 11] 43)).alloc (by simp) (.cells #[.int .i64 1, .slice (some ⟨g1, 0, none⟩) 1 1] 45)))
  have x3b := HAL.out.cell 3
  have f3b := HAL.out.free 3
  have HA := Lib.hid HPA.1
  have HK1 := Lib.hid HPA.2
  clear HPA
  dsimp only
  go_upto_region 5 with fail
  generalize hw7 : ((w6.alloc (.cells #[.int .i64 8, .int .i64 11] 43)).alloc (.cells #[.int .i64 1, .slice (some ⟨g1, 0, none⟩) 1 1] 45)).setCell ⟨b1, 3, none⟩ (.slice (some ⟨g2, 0, none⟩) 1 1) = w7
  rw [hw7] at HA HK1
  clear hw7 x3b f3b HAL x0 x1 x2 x3 f3 hg1 hg2
  have x0 : w7.cell? ⟨b1, 0, none⟩ = some (.int .i64 7) := HA.out.cell 0
  have x1 : w7.cell? ⟨b1, 1, none⟩ = some (.int .i64 1) := HA.out.cell 1
  have x2 : w7.cell? ⟨b1, 2, none⟩ = some (.slice co 1 cc) := HA.out.cell 2
  have x3 : w7.cell? ⟨b1, 3, none⟩ = some (.slice (some ⟨g2, 0, none⟩) 1 1) := HA.out.cell 3
  have HCT : Hid (Calls Try.prog 16 #[.agg #[.int .i64 7, .int .i64 1, .slice co 1 cc, .slice (some ⟨g2, 0, none⟩) 1 1], .int .i64 1] w7 fun e w' => e = .returned (.tuple #[.int .i64 0, .bool true]) ∧ Below w7.heap.size w7 w') := Lib.hid (before_some co cc (some ⟨g2, 0, none⟩) 1 w7 HA.out.at_)
  go_wp2_with fail
  (with_reducible refine HCT.out.mono ?_)
  rintro e w8 ⟨rfl, q⟩
  have HA := Lib.hid (HA.out.keep q)
  have HK1 := Lib.hid (HK1.out.trans (q.mono HK1.out.size))
  clear q HCT x0 x1 x2 x3
  have x0 : w8.cell? ⟨b1, 0, none⟩ = some (.int .i64 7) := HA.out.cell 0
  have x1 : w8.cell? ⟨b1, 1, none⟩ = some (.int .i64 1) := HA.out.cell 1
  have x2 : w8.cell? ⟨b1, 2, none⟩ = some (.slice co 1 cc) := HA.out.cell 2
  have x3 : w8.cell? ⟨b1, 3, none⟩ = some (.slice (some ⟨g2, 0, none⟩) 1 1) := HA.out.cell 3
  have HCT : Hid (Calls Try.prog 21 #[.agg #[.int .i64 7, .int .i64 1, .slice co 1 cc, .slice (some ⟨g2, 0, none⟩) 1 1]] w8 fun e w' => e = .returned (.int .i64 0) ∧ Below w8.heap.size w8 w') := Lib.hid (right_yes (weeksF 7 [(1, [(8, 11)])] co cc (some ⟨g2, 0, none⟩) 1) w8 HA.out.at_ (small_weeks _ _ _ _ _ _ (.inr rfl)) (rt_some co cc (some ⟨g2, 0, none⟩) 1))
  go_wp2_with fail
  (with_reducible refine HCT.out.mono ?_)
  rintro e w9 ⟨rfl, q⟩
  have HA := Lib.hid (HA.out.keep q)
  have HK1 := Lib.hid (HK1.out.trans (q.mono HK1.out.size))
  clear q HCT x0 x1 x2 x3
  have HGG := gr_s1 co cc (some ⟨g2, 0, none⟩) 1
  have x0 : w9.cell? ⟨b1, 0, none⟩ = some (.int .i64 7) := HA.out.cell 0
  have x1 : w9.cell? ⟨b1, 1, none⟩ = some (.int .i64 1) := HA.out.cell 1
  have x2 : w9.cell? ⟨b1, 2, none⟩ = some (.slice co 1 cc) := HA.out.cell 2
  have x3 : w9.cell? ⟨b1, 3, none⟩ = some (.slice (some ⟨g2, 0, none⟩) 1 1) := HA.out.cell 3
  have HCT : Hid (Calls Try.prog 23 #[.agg #[.int .i64 7, .int .i64 1, .slice co 1 cc, .slice (some ⟨g2, 0, none⟩) 1 1], .int .i64 1, .int .i64 8, .int .i64 11] w9 fun e w' => e = .returned (.bool true) ∧ Below w9.heap.size w9 w') := Lib.hid (gets_yes (weeksF 7 [(1, [(8, 11)])] co cc (some ⟨g2, 0, none⟩) 1) 1 8 11 w9 HA.out.at_ ((rt_some co cc (some ⟨g2, 0, none⟩) 1).ok (small_weeks _ _ _ _ _ _ (.inr rfl))) ⟨⟨by decide, by decide⟩, by rw [HGG]; exact fit_good (by simp [Good, Rt])⟩ HGG (by decide))
  go_wp2_with fail
  (with_reducible refine HCT.out.mono ?_)
  rintro e w10 ⟨rfl, q⟩
  have HA := Lib.hid (HA.out.keep q)
  have HK1 := Lib.hid (HK1.out.trans (q.mono HK1.out.size))
  clear q HCT x0 x1 x2 x3
  clear HGG
  have HGG := gr_s2 co cc (some ⟨g2, 0, none⟩) 1
  have x0 : w10.cell? ⟨b1, 0, none⟩ = some (.int .i64 7) := HA.out.cell 0
  have x1 : w10.cell? ⟨b1, 1, none⟩ = some (.int .i64 1) := HA.out.cell 1
  have x2 : w10.cell? ⟨b1, 2, none⟩ = some (.slice co 1 cc) := HA.out.cell 2
  have x3 : w10.cell? ⟨b1, 3, none⟩ = some (.slice (some ⟨g2, 0, none⟩) 1 1) := HA.out.cell 3
  have HCT : Hid (Calls Try.prog 23 #[.agg #[.int .i64 7, .int .i64 1, .slice co 1 cc, .slice (some ⟨g2, 0, none⟩) 1 1], .int .i64 2, .int .i64 14, .int .i64 18] w10 fun e w' => e = .returned (.bool true) ∧ Below w10.heap.size w10 w') := Lib.hid (gets_yes (weeksF 7 [(1, [(8, 11)])] co cc (some ⟨g2, 0, none⟩) 1) 2 14 18 w10 HA.out.at_ ((rt_some co cc (some ⟨g2, 0, none⟩) 1).ok (small_weeks _ _ _ _ _ _ (.inr rfl))) ⟨⟨by decide, by decide⟩, by rw [HGG]; exact fit_good (by simp [Good, Rt])⟩ HGG (by decide))
  go_wp2_with fail
  (with_reducible refine HCT.out.mono ?_)
  rintro e w11 ⟨rfl, q⟩
  have HA := Lib.hid (HA.out.keep q)
  have HK1 := Lib.hid (HK1.out.trans (q.mono HK1.out.size))
  clear q HCT x0 x1 x2 x3
  clear HGG
  go_wp2_with fail
  (with_reducible refine (HWK.out w11).mono ?_)
  rintro e w12 ⟨ko, kc, rfl, hc, q⟩
  have HA := Lib.hid (HA.out.keep q)
  obtain ⟨b4, hb4⟩ : ∃ q, w12.heap.size = q := ⟨_, rfl⟩
  have HKW := hc
  have HB4 := Lib.hid hb4
  have HC : Hid (La (weeksF 7 [] ko kc none 0) w (w12.alloc (.cells #[.int .i64 7, .int .i64 1, .slice ko 1 kc, .slice none 0 0] 25)) b4) := Lib.hid (la_new (at_weeks hc.out) hb4 HA.out.bw)
  have HK4 := Lib.hid ((Below.refl _ w12).alloc (Nat.le_refl _) (.cells #[.int .i64 7, .int .i64 1, .slice ko 1 kc, .slice none 0 0] 25))
  have HAK := HA
  clear hc q HK1 HA
  dsimp only
  go_upto_region 9 with fail
  generalize hw8 : w12.alloc (.cells #[.int .i64 7, .int .i64 1, .slice ko 1 kc, .slice none 0 0] 25) = w13
  rw [hw8] at HC HK4
  clear hw8
  have x0 : w13.cell? ⟨b4, 0, none⟩ = some (.int .i64 7) := HC.out.cell 0
  have f0 := HC.out.free 0
  have HPA := la_bad HKW.out HB4.out HK4.out HC.out
  have HC := Lib.hid HPA.1
  have HK4 := Lib.hid HPA.2
  clear HPA
  go_upto_region 10 with fail
  generalize hw9 : w13.setCell ⟨b4, 0, none⟩ (.int .i64 4) = w14
  rw [hw9] at HC HK4
  clear hw9 x0 f0
  obtain ⟨j1, hj1⟩ : ∃ q, w14.heap.size = q := ⟨_, rfl⟩
  obtain ⟨j2, hj2⟩ : ∃ q, j1 + 1 = q := ⟨_, rfl⟩
  obtain ⟨b5, hb5⟩ : ∃ q, j2 + 1 = q := ⟨_, rfl⟩
  have HD := Lib.hid (la_alone HC.out.bw hj1 hj2 hb5)
  have KA := (((Below.refl _ w14).alloc (Nat.le_refl _) (.cells #[.int .i64 5, .int .i64 6] 43)).alloc (by simp) (.cells #[.int .i64 3, .slice (some ⟨j1, 0, none⟩) 1 1] 45)).alloc (by simp; omega) (.cells (aloneF (some ⟨j2, 0, none⟩) 1).box 25)
  have HC := Lib.hid (HC.out.keep KA)
  have HK4 := Lib.hid (HK4.out.trans (KA.mono HK4.out.size))
  clear KA
  go_upto_region 11 with fail
  generalize hw10 : ((w14.alloc (.cells #[.int .i64 5, .int .i64 6] 43)).alloc (.cells #[.int .i64 3, .slice (some ⟨j1, 0, none⟩) 1 1] 45)).alloc (.cells #[.int .i64 0, .int .i64 0, .slice none 0 0, .slice (some ⟨j2, 0, none⟩) 1 1] 25) = w15
  rw [hw10] at HD HC HK4
  clear hw10 hj1 hj2 hb5
  have x0 : w15.cell? ⟨b5, 0, none⟩ = some (.int .i64 0) := HD.out.cell 0
  have x1 : w15.cell? ⟨b5, 1, none⟩ = some (.int .i64 0) := HD.out.cell 1
  have x2 : w15.cell? ⟨b5, 2, none⟩ = some (.slice none 0 0) := HD.out.cell 2
  have x3 : w15.cell? ⟨b5, 3, none⟩ = some (.slice (some ⟨j2, 0, none⟩) 1 1) := HD.out.cell 3
  have HCT : Hid (Calls Try.prog 15 #[.agg #[.int .i64 0, .int .i64 0, .slice none 0 0, .slice (some ⟨j2, 0, none⟩) 1 1], .int .i64 3] w15 fun e w' => (∃ j, e = .returned (.tuple #[.int .i64 j, .bool false])) ∧ Below w15.heap.size w15 w') := Lib.hid (behind_no (some ⟨j2, 0, none⟩) 1 w15 HD.out.at_)
  go_wp2_with fail
  (with_reducible refine HCT.out.mono ?_)
  rintro e w16 ⟨⟨j3, rfl⟩, q⟩
  have HC := Lib.hid (HC.out.keep q)
  have HD := Lib.hid (HD.out.keep q)
  have HK4 := Lib.hid (HK4.out.trans (q.mono HK4.out.size))
  clear q HCT x0 x1 x2 x3
  have x0 : w16.cell? ⟨b5, 0, none⟩ = some (.int .i64 0) := HD.out.cell 0
  have x1 : w16.cell? ⟨b5, 1, none⟩ = some (.int .i64 0) := HD.out.cell 1
  have x2 : w16.cell? ⟨b5, 2, none⟩ = some (.slice none 0 0) := HD.out.cell 2
  have x3 : w16.cell? ⟨b5, 3, none⟩ = some (.slice (some ⟨j2, 0, none⟩) 1 1) := HD.out.cell 3
  have HCT : Hid (Calls Try.prog 15 #[.agg #[.int .i64 0, .int .i64 0, .slice none 0 0, .slice (some ⟨j2, 0, none⟩) 1 1], .int .i64 (-9)] w16 fun e w' => e = .returned (.tuple #[.int .i64 3, .bool true]) ∧ Below w16.heap.size w16 w') := Lib.hid (behind_yes (some ⟨j2, 0, none⟩) 1 w16 HD.out.at_)
  go_wp2_with fail
  (with_reducible refine HCT.out.mono ?_)
  rintro e w17 ⟨rfl, q⟩
  have HC := Lib.hid (HC.out.keep q)
  have HD := Lib.hid (HD.out.keep q)
  have HK4 := Lib.hid (HK4.out.trans (q.mono HK4.out.size))
  clear q HCT x0 x1 x2 x3
  have HA := Lib.hid (HAK.out.keep HK4.out)
  have x0 : w17.cell? ⟨b1, 0, none⟩ = some (.int .i64 7) := HA.out.cell 0
  have x1 : w17.cell? ⟨b1, 1, none⟩ = some (.int .i64 1) := HA.out.cell 1
  have x2 : w17.cell? ⟨b1, 2, none⟩ = some (.slice co 1 cc) := HA.out.cell 2
  have x3 : w17.cell? ⟨b1, 3, none⟩ = some (.slice (some ⟨g2, 0, none⟩) 1 1) := HA.out.cell 3
  have HCT : Hid (Calls Try.prog 9 #[.agg #[.int .i64 7, .int .i64 1, .slice co 1 cc, .slice (some ⟨g2, 0, none⟩) 1 1], .int .i64 1099511627776] w17 fun e w' => (∃ v, e = .returned (.tuple #[v, .int .i64 20])) ∧ Below w17.heap.size w17 w') := Lib.hid (get_over co cc (some ⟨g2, 0, none⟩) 1 w17 HA.out.at_)
  go_wp2_with fail
  (with_reducible refine HCT.out.mono ?_)
  rintro e w18 ⟨⟨vq, rfl⟩, q⟩
  have HC := Lib.hid (HC.out.keep q)
  have HD := Lib.hid (HD.out.keep q)
  have HK4 := Lib.hid (HK4.out.trans (q.mono HK4.out.size))
  clear q HCT x0 x1 x2 x3
  have x0 : w18.cell? ⟨b4, 0, none⟩ = some (.int .i64 4) := HC.out.cell 0
  have x1 : w18.cell? ⟨b4, 1, none⟩ = some (.int .i64 1) := HC.out.cell 1
  have x2 : w18.cell? ⟨b4, 2, none⟩ = some (.slice ko 1 kc) := HC.out.cell 2
  have x3 : w18.cell? ⟨b4, 3, none⟩ = some (.slice none 0 0) := HC.out.cell 3
  have HCT : Hid (Calls Try.prog 21 #[.agg #[.int .i64 4, .int .i64 1, .slice ko 1 kc, .slice none 0 0]] w18 fun e w' => e = .returned (.int .i64 50) ∧ Below w18.heap.size w18 w') := Lib.hid (right_no (weeksF 4 [] ko kc none 0) w18 HC.out.at_ (small_weeks _ _ _ _ _ _ (.inl rfl)) (rt_bad ko kc none 0))
  go_wp2_with fail
  (with_reducible refine HCT.out.mono ?_)
  rintro e w19 ⟨rfl, q⟩
  have HC := Lib.hid (HC.out.keep q)
  have HD := Lib.hid (HD.out.keep q)
  have HK4 := Lib.hid (HK4.out.trans (q.mono HK4.out.size))
  clear q HCT x0 x1 x2 x3
  have x0 : w19.cell? ⟨b5, 0, none⟩ = some (.int .i64 0) := HD.out.cell 0
  have x1 : w19.cell? ⟨b5, 1, none⟩ = some (.int .i64 0) := HD.out.cell 1
  have x2 : w19.cell? ⟨b5, 2, none⟩ = some (.slice none 0 0) := HD.out.cell 2
  have x3 : w19.cell? ⟨b5, 3, none⟩ = some (.slice (some ⟨j2, 0, none⟩) 1 1) := HD.out.cell 3
  have HCT : Hid (Calls Try.prog 21 #[.agg #[.int .i64 0, .int .i64 0, .slice none 0 0, .slice (some ⟨j2, 0, none⟩) 1 1]] w19 fun e w' => e = .returned (.int .i64 0) ∧ Below w19.heap.size w19 w') := Lib.hid (right_yes (aloneF (some ⟨j2, 0, none⟩) 1) w19 HD.out.at_ (small_alone _ _) (rt_alone (some ⟨j2, 0, none⟩) 1))
  go_wp2_with fail
  (with_reducible refine HCT.out.mono ?_)
  rintro e w20 ⟨rfl, q⟩
  have HC := Lib.hid (HC.out.keep q)
  have HD := Lib.hid (HD.out.keep q)
  have HK4 := Lib.hid (HK4.out.trans (q.mono HK4.out.size))
  clear q HCT x0 x1 x2 x3
  go_wp2
  go_returns
  exact ⟨rfl, HC.out.bw⟩
end Go.Proofs.Ytijpejjkbioekaa
