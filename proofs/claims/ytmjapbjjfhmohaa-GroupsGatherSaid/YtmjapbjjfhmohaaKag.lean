/- X3 in one. -/
import Derived.Test.YtmjapbjjfhmohaaKaf
import Derived.Test.YtmjapbjjfhmohaaKo
import Derived.BigRegion
namespace Go.Proofs.Ytmjapbjjfhmohaa
set_option linter.unusedVariables false
set_option linter.unusedSimpArgs false
open Go.ChangeShapes Go.WideShapes Go.ChangeAt Go.RowKit Go.Shelf

set_option maxHeartbeats 1000000 in
theorem days_any (w : World) : Calls Try.prog 19 #[] w fun e w' => ∃ co cc, e = .returned (daysF co cc).v ∧ Hid (CoAt w' co 1 cc [[(0, 0)]]) ∧ Below w.heap.size w w' := by
  go_enter Try.func19, Try.ntmps19
  go_wp2
  obtain ⟨b, hb⟩ : ∃ b, w.heap.size = b := ⟨_, rfl⟩
  rw [hb]
  generalize hwf : ((w.alloc (.cells #[.int .i64 1, .int .i64 1, .slice (some ⟨b + 1 + 1, 0, none⟩) 1 1, .slice none 0 0] 25)).alloc (.cells #[.int .i64 0, .int .i64 0] 50)).alloc (.cells #[.slice (some ⟨b + 1, 0, none⟩) 1 1] 34) = wf
  have k0 : wf.heap[b]? = some (.cells #[.int .i64 1, .int .i64 1, .slice (some ⟨b + 1 + 1, 0, none⟩) 1 1, .slice none 0 0] 25 (0, 0)) := by
    rw [← hwf, ← hb, heap_alloc_old _ _ (by simp; omega), heap_alloc_old _ _ (by simp), heap_alloc_new]
  have k1 : wf.heap[b + 1]? = some (.cells #[.int .i64 0, .int .i64 0] 50 (0, 0)) := by
    rw [← hwf, heap_alloc_old _ _ (by simp; omega)]; exact heap_at (by simp; omega)
  have k2 : wf.heap[b + 1 + 1]? = some (.cells #[.slice (some ⟨b + 1, 0, none⟩) 1 1] 34 (0, 0)) := by
    rw [← hwf]; exact heap_at (by simp; omega)
  have HB : Hid (Below w.heap.size w wf) := Lib.hid (by rw [← hwf]; exact (((Below.refl _ w).alloc (Nat.le_refl _) _).alloc (by simp) _).alloc (by simp; omega) _)
  clear hwf
  have r0 : wf.cell? ⟨b, 0, none⟩ = some (.int .i64 1) := cell_block k0 0
  have r1 : wf.cell? ⟨b, 1, none⟩ = some (.int .i64 1) := cell_block k0 1
  have r2 : wf.cell? ⟨b, 2, none⟩ = some (.slice (some ⟨b + 1 + 1, 0, none⟩) 1 1) := cell_block k0 2
  have r3 : wf.cell? ⟨b, 3, none⟩ = some (.slice none 0 0) := cell_block k0 3
  have HC : Hid (CoAt wf (some ⟨b + 1 + 1, 0, none⟩) 1 1 [[(0, 0)]]) := Lib.hid (by
    refine ⟨rfl, Nat.le_refl _, by decide, (fun e => by cases e), fun _ => ⟨_, _, rfl, fun i hi => ?_⟩⟩
    obtain rfl : i = 0 := by simpa using hi
    refine ⟨_, _, _, cell_block k2 0, rfl, Nat.le_refl _, (show 1 ≤ 9223372036854775807 by decide), (fun e => by cases e), fun _ => ⟨_, _, rfl, fun j hj => ?_⟩⟩
    obtain rfl : j = 0 := by simpa using hj
    exact ⟨cell_block k1 0, cell_block k1 1⟩)
  exact bodyPost_ret (v := (daysF (some ⟨b + 1 + 1, 0, none⟩) 1).v) (by simp [results, Try.results19, go_sem, r0, r1, r2, r3]) rfl ⟨_, _, rfl, HC, by rw [← hb]; exact HB.out⟩

theorem at_mk {P N : Int} {co oo : Option Addr} {cn cc on oc : Nat} {cs : List (List Sp)} {os : List Gr} {w : World} (h : (-9223372036854775808 ≤ P ∧ P ≤ 9223372036854775807) ∧ -9223372036854775808 ≤ N ∧ N ≤ 9223372036854775807) (hc : CoAt w co cn cc cs) (ho : OdAt w oo on oc os) (h1 : ∀ l ∈ cs, l.length ≤ 10000000000000) (h2 : ∀ o ∈ os, o.2.length ≤ 10000000000000) : Fv.At ⟨P, N, co, cn, cc, oo, on, oc, cs, os⟩ w := ⟨h.1.1, h.1.2, h.2.1, h.2.2, hc, ho, ⟨h1, h2⟩⟩
theorem at_days {w : World} {co : Option Addr} {cc : Nat} (hc : CoAt w co 1 cc [[(0, 0)]]) : (daysF co cc).At w := at_mk (by decide) hc (od_none w) (len1 (by decide)) (fun o ho => by cases ho)
theorem at_wide {w : World} {co : Option Addr} {cc : Nat} (hc : CoAt w co 1 cc [[(0, 0)]]) : (wideF co cc).At w := at_mk (by decide) hc (od_none w) (len1 (by decide)) (fun o ho => by cases ho)
theorem at_weeks {w : World} {co : Option Addr} {cc : Nat} (hc : CoAt w co 1 cc [[(0, 4)]]) : (weeksF 7 [] co cc none 0).At w := at_mk (by decide) hc (od_none w) (len1 (by decide)) (fun o ho => by cases ho)
/-- A form in a box. -/
structure Fo1 (F : Fv) (w0 w : World) (b : Nat) : Prop where
  at_ : F.At w
  box : w.heap[b]? = some (.cells F.box 25 (0, 0))
  bw : Below w0.heap.size w0 w
theorem Fo1.keep {F : Fv} {w0 w w' : World} {b : Nat} (h : Fo1 F w0 w b) (k : Below w.heap.size w w') : Fo1 F w0 w' b := ⟨h.at_.keep k, heap_keep h.box k, h.bw.trans (k.mono h.bw.size)⟩
theorem fo1_new {F : Fv} {w0 w : World} {b : Nat} (h : F.At w) (hb : w.heap.size = b) (k : Below w0.heap.size w0 w) : Fo1 F w0 (w.alloc (.cells F.box 25)) b := ⟨h.keep ((Below.refl _ w).alloc (Nat.le_refl _) _), heap_at hb, k.trans (((Below.refl _ w).alloc (Nat.le_refl _) _).mono k.size)⟩
theorem odAt_of {w : World} {g1 g2 : Nat} {i x y : Int} (h1 : w.heap[g1]? = some (.cells #[.int .i64 x, .int .i64 y] 50 (0, 0))) (h2 : w.heap[g2]? = some (.cells #[.int .i64 i, .slice (some ⟨g1, 0, none⟩) 1 1] 52 (0, 0))) (hi : -9223372036854775808 ≤ i ∧ i ≤ 9223372036854775807) : OdAt w (some ⟨g2, 0, none⟩) 1 1 [(i, [(x, y)])] := by
  refine ⟨rfl, Nat.le_refl _, by decide, (fun e => by cases e), fun _ => ⟨_, _, rfl, fun j hj => ?_⟩⟩
  obtain rfl : j = 0 := by simpa using hj
  refine ⟨cell_block h2 0, ⟨_, _, _, cell_block h2 1, rfl, Nat.le_refl _, (show 1 ≤ 9223372036854775807 by decide), (fun e => by cases e), fun _ => ⟨_, _, rfl, fun k hk => ?_⟩⟩, hi⟩
  obtain rfl : k = 0 := by simpa using hk
  exact ⟨cell_block h1 0, cell_block h1 1⟩
/-- The exception of the example, stored. -/
theorem two_box {w0 w1 w : World} {b g1 g2 : Nat} {co : Option Addr} {cc : Nat} (hc : CoAt w1 co 1 cc [[(0, 4)]]) (hb : w1.heap.size = b) (k1 : Below w1.heap.size w1 w) (h : Fo1 (weeksF 7 [] co cc none 0) w0 w b) (hlo : w0.heap.size ≤ b) (e1 : w.heap.size = g1) (e2 : g1 + 1 = g2) :
    Fo1 (weeksF 7 [(1, [(8, 11)])] co cc (some ⟨g2, 0, none⟩) 1) w0 (((w.alloc (.cells #[.int .i64 8, .int .i64 11] 50)).alloc (.cells #[.int .i64 1, .slice (some ⟨g1, 0, none⟩) 1 1] 52)).setCell ⟨b, 3, none⟩ (.slice (some ⟨g2, 0, none⟩) 1 1)) b ∧
    Below w1.heap.size w1 (((w.alloc (.cells #[.int .i64 8, .int .i64 11] 50)).alloc (.cells #[.int .i64 1, .slice (some ⟨g1, 0, none⟩) 1 1] 52)).setCell ⟨b, 3, none⟩ (.slice (some ⟨g2, 0, none⟩) 1 1)) := by
  have hlt : b < w.heap.size := (Array.getElem?_eq_some_iff.1 h.box).1
  have k2 : Below w.heap.size w ((w.alloc (.cells #[.int .i64 8, .int .i64 11] 50)).alloc (.cells #[.int .i64 1, .slice (some ⟨g1, 0, none⟩) 1 1] 52)) := ((Below.refl _ w).alloc (Nat.le_refl _) _).alloc (by simp) _
  have h2 := h.keep k2
  have q1 : ((w.alloc (.cells #[.int .i64 8, .int .i64 11] 50)).alloc (.cells #[.int .i64 1, .slice (some ⟨g1, 0, none⟩) 1 1] 52)).heap[g1]? = some (.cells #[.int .i64 8, .int .i64 11] 50 (0, 0)) := by
    rw [heap_alloc_old _ _ (by simp; omega)]; exact heap_at e1
  have q2 : ((w.alloc (.cells #[.int .i64 8, .int .i64 11] 50)).alloc (.cells #[.int .i64 1, .slice (some ⟨g1, 0, none⟩) 1 1] 52)).heap[g2]? = some (.cells #[.int .i64 1, .slice (some ⟨g1, 0, none⟩) 1 1] 52 (0, 0)) := heap_at (by simp; omega)
  have hg := grown_cell ((w.alloc (.cells #[.int .i64 8, .int .i64 11] 50)).alloc (.cells #[.int .i64 1, .slice (some ⟨g1, 0, none⟩) 1 1] 52)) ⟨b, 3, none⟩ (.slice (some ⟨g2, 0, none⟩) 1 1)
  have k3 : Below w1.heap.size w1 _ := (k1.trans (k2.mono k1.size)).setCell (p := ⟨b, 3, none⟩) (Nat.le_of_eq hb) (.slice (some ⟨g2, 0, none⟩) 1 1)
  refine ⟨⟨at_mk (by decide) (hc.keep k3) (odAt_of (g1 := g1) (g2 := g2) ?_ ?_ ⟨by decide, by decide⟩) (len1 (by decide)) (fun o ho => by rw [List.mem_singleton.1 ho]; decide), ?_, h2.bw.setCell (p := ⟨b, 3, none⟩) hlo _⟩, k3⟩
  · exact (hg.block g1 (by simp; omega) (fun e => by have : g1 = b := Option.some.inj e; omega)).trans q1
  · exact (hg.block g2 (by simp; omega) (fun e => by have : g2 = b := Option.some.inj e; omega)).trans q2
  · rw [set_block h2.box]; rfl
theorem wide_box {w : World} {h1 h2 h3 : Nat} (e1 : w.heap.size = h1) (e2 : h1 + 1 = h2) (e3 : h2 + 1 = h3) : Fo1 (wideF (some ⟨h2, 0, none⟩) 1) w (((w.alloc (.cells #[.int .i64 0, .int .i64 0] 50)).alloc (.cells #[.slice (some ⟨h1, 0, none⟩) 1 1] 34)).alloc (.cells #[.int .i64 549755813888, .int .i64 1, .slice (some ⟨h2, 0, none⟩) 1 1, .slice none 0 0] 25)) h3 := by
  have k2 : Below w.heap.size w ((w.alloc (.cells #[.int .i64 0, .int .i64 0] 50)).alloc (.cells #[.slice (some ⟨h1, 0, none⟩) 1 1] 34)) := ((Below.refl _ w).alloc (Nat.le_refl _) _).alloc (by simp) _
  refine fo1_new (at_wide ?_) (by simp; omega) k2
  have b1 : ((w.alloc (.cells #[.int .i64 0, .int .i64 0] 50)).alloc (.cells #[.slice (some ⟨h1, 0, none⟩) 1 1] 34)).heap[h1]? = some (.cells #[.int .i64 0, .int .i64 0] 50 (0, 0)) := by
    rw [heap_alloc_old _ _ (by simp; omega)]; exact heap_at e1
  have b2 : ((w.alloc (.cells #[.int .i64 0, .int .i64 0] 50)).alloc (.cells #[.slice (some ⟨h1, 0, none⟩) 1 1] 34)).heap[h2]? = some (.cells #[.slice (some ⟨h1, 0, none⟩) 1 1] 34 (0, 0)) := heap_at (by simp; omega)
  refine ⟨rfl, Nat.le_refl _, by decide, (fun e => by cases e), fun _ => ⟨_, _, rfl, fun i hi => ?_⟩⟩
  obtain rfl : i = 0 := by simpa using hi
  refine ⟨_, _, _, cell_block b2 0, rfl, Nat.le_refl _, (show 1 ≤ 9223372036854775807 by decide), (fun e => by cases e), fun _ => ⟨_, _, rfl, fun j hj => ?_⟩⟩
  obtain rfl : j = 0 := by simpa using hj
  exact ⟨cell_block b1 0, cell_block b1 1⟩
theorem get_later (co : Option Addr) (cc : Nat) (oo : Option Addr) (oc : Nat) (w : World) (hF : (oneF 1 [(-3, -3)] [] co cc oo oc).At w) : Calls Try.prog 13 #[(oneF 1 [(-3, -3)] [] co cc oo oc).v, .int .i64 0] w fun e w' => (∃ ao c, e = .returned (.tuple #[.slice ao 1 c, .int .i64 0]) ∧ Hid (SpAt w' ao 1 c [(-3, -3)])) ∧ Hid (Below w.heap.size w w') := by
  have rt : (oneF 1 [(-3, -3)] [] co cc oo oc).Rt := rt_one (by decide) (by decide) (by simp [Good, Rt]) (ris_one (by decide)) co cc oo oc
  refine (get_any _ 0 w hF (rt.okm ⟨show 1 ≤ 6000 by decide, show 0 ≤ 6000 by decide, show lens [[((-3 : Int), (-3 : Int))]] + lens (tks []) ≤ 60000 by decide⟩)).mono ?_
  rintro e w' ⟨v, k, rfl, q, h⟩
  rw [gr_later] at h
  rcases h.out with ⟨_, rfl, h1⟩ | ⟨h, _⟩
  · obtain ⟨ao, c, rfl, hs⟩ := own_sp rfl h1
    exact ⟨⟨ao, c, rfl, Lib.hid hs⟩, Lib.hid q⟩
  · exact absurd ⟨⟨by decide, by decide⟩, fit1 (by decide) (by decide) (by decide) (by decide)⟩ h
theorem sp_block1 {w : World} {g : Nat} {x y : Int} (h : w.heap[g]? = some (.cells #[.int .i64 x, .int .i64 y] 50 (0, 0))) : SpAt w (some ⟨g, 0, none⟩) 1 1 [(x, y)] := by
  refine ⟨rfl, Nat.le_refl _, (show 1 ≤ 9223372036854775807 by decide), (fun e => by cases e), fun _ => ⟨_, _, rfl, fun k hk => ?_⟩⟩
  obtain rfl : k = 0 := by simpa using hk
  exact ⟨cell_block h 0, cell_block h 1⟩
theorem hidSp {w w' : World} {ao : Option Addr} {n c : Nat} {l : List Sp} (h : SpAt w ao n c l) (k : Below w.heap.size w w') : SpAt w' ao n c l := h.keep k
set_option maxRecDepth 8000 in
set_option maxHeartbeats 4000000 in
theorem awake_any (w : World) : Calls Try.prog 7 #[] w fun e w' => e = .returned (.bool true) ∧ Below w.heap.size w w' := by
  have HDY : Hid (∀ W, Calls Try.prog 19 #[] W fun e w' => ∃ co cc, e = .returned (.agg #[.int .i64 1, .int .i64 1, .slice co 1 cc, .slice none 0 0]) ∧ Hid (CoAt w' co 1 cc [[(0, 0)]]) ∧ Below W.heap.size W w') := Lib.hid (fun W => days_any W)
  have HWK : Hid (∀ W, Calls Try.prog 21 #[] W fun e w' => ∃ co cc, e = .returned (.agg #[.int .i64 7, .int .i64 1, .slice co 1 cc, .slice none 0 0]) ∧ Hid (CoAt w' co 1 cc [[(0, 4)]]) ∧ Below W.heap.size W w') := Lib.hid (fun W => weeks_any W)
  go_enter Try.func7, Try.ntmps7
  have KW : Hid (Below w.heap.size w w) := Lib.hid (Below.refl _ w)
  go_wp2_with fail
  (with_reducible refine (HDY.out w).mono ?_)
  rintro e w1 ⟨dco, dcc, rfl, hd, q⟩
  have KW := Lib.hid (KW.out.trans (q.mono KW.out.size))
  have HD : Hid ((daysF dco dcc).At w1) := Lib.hid (at_days hd.out)
  clear hd q
  have HCT : Hid (Calls Try.prog 8 #[.agg #[.int .i64 1, .int .i64 1, .slice dco 1 dcc, .slice none 0 0], .int .i64 7] w1 fun e w' => (∃ ao1 ac1 lo1 lc1, e = .returned (.tuple #[.agg #[.int .i64 7, .int .i64 1, .slice ao1 1 ac1, .slice lo1 0 lc1], .int .i64 0]) ∧ Hid (Fv.At (oneF 7 [(0, 6)] [] ao1 ac1 lo1 lc1) w')) ∧ Hid (Below w1.heap.size w1 w')) := Lib.hid ((ex_week dco dcc w1 HD.out).mono (by rintro e w' ⟨a, b, c, d, h1, h2, h3⟩; exact ⟨⟨a, b, c, d, h1, h2⟩, h3⟩))
  go_wp2_with fail
  (with_reducible refine (HCT.out).mono ?_)
  rintro e w2 ⟨⟨ao1, ac1, lo1, lc1, rfl, ha⟩, q'⟩
  have q := q'.out
  have KW := Lib.hid (KW.out.trans (q.mono KW.out.size))
  have HA := ha
  clear ha HD HCT q
  obtain ⟨b1, hb⟩ : ∃ z, w2.heap.size = z := ⟨_, rfl⟩
  obtain ⟨w3, hw⟩ : ∃ z, w2.alloc (.cells ((oneF 7 [(0, 6)] [] ao1 ac1 lo1 lc1) : Fv).box 25) = z := ⟨_, rfl⟩
  have q : Below w2.heap.size w2 w3 := by rw [← hw]; exact (Below.refl _ w2).alloc (Nat.le_refl _) _
  have Xb1 : Hid (Fo1 (oneF 7 [(0, 6)] [] ao1 ac1 lo1 lc1) w w3 b1) := Lib.hid (by rw [← hw]; exact fo1_new HA.out hb KW.out)
  have KW := Lib.hid (KW.out.trans (q.mono KW.out.size))
  have HWX : Hid (w2.alloc (.cells #[.int .i64 7, .int .i64 1, .slice ao1 1 ac1, .slice lo1 0 lc1] 25) = w3) := Lib.hid hw
  have HBX := Lib.hid hb
  clear hw hb HA q
  go_upto_region 2 with fail
  rw [HWX.out]
  try rw [HBX.out]
  clear HWX HBX
  go_wp2_with fail
  (with_reducible refine (HDY.out w3).mono ?_)
  rintro e w4 ⟨dco, dcc, rfl, hd, q⟩
  have KW := Lib.hid (KW.out.trans (q.mono KW.out.size))
  have Xb1 := Lib.hid (Xb1.out.keep q)
  have HD : Hid ((daysF dco dcc).At w4) := Lib.hid (at_days hd.out)
  clear hd q
  have HCT : Hid (Calls Try.prog 12 #[.agg #[.int .i64 1, .int .i64 1, .slice dco 1 dcc, .slice none 0 0], .int .i64 3] w4 fun e w' => (∃ ao3 ac3 lo3 lc3, e = .returned (.tuple #[.agg #[.int .i64 1, .int .i64 1, .slice ao3 1 ac3, .slice lo3 0 lc3], .int .i64 0]) ∧ Hid (Fv.At (oneF 1 [(-3, -3)] [] ao3 ac3 lo3 lc3) w')) ∧ Hid (Below w4.heap.size w4 w')) := Lib.hid ((ex_later dco dcc w4 HD.out).mono (by rintro e w' ⟨a, b, c, d, h1, h2, h3⟩; exact ⟨⟨a, b, c, d, h1, h2⟩, h3⟩))
  go_wp2_with fail
  (with_reducible refine (HCT.out).mono ?_)
  rintro e w5 ⟨⟨ao3, ac3, lo3, lc3, rfl, ha⟩, q'⟩
  have q := q'.out
  have KW := Lib.hid (KW.out.trans (q.mono KW.out.size))
  have Xb1 := Lib.hid (Xb1.out.keep q)
  have HA := ha
  clear ha HD HCT q
  obtain ⟨b3, hb⟩ : ∃ z, w5.heap.size = z := ⟨_, rfl⟩
  obtain ⟨w6, hw⟩ : ∃ z, w5.alloc (.cells ((oneF 1 [(-3, -3)] [] ao3 ac3 lo3 lc3) : Fv).box 25) = z := ⟨_, rfl⟩
  have q : Below w5.heap.size w5 w6 := by rw [← hw]; exact (Below.refl _ w5).alloc (Nat.le_refl _) _
  have Xb3 : Hid (Fo1 (oneF 1 [(-3, -3)] [] ao3 ac3 lo3 lc3) w w6 b3) := Lib.hid (by rw [← hw]; exact fo1_new HA.out hb KW.out)
  have KW := Lib.hid (KW.out.trans (q.mono KW.out.size))
  have Xb1 := Lib.hid (Xb1.out.keep q)
  have HWX : Hid (w5.alloc (.cells #[.int .i64 1, .int .i64 1, .slice ao3 1 ac3, .slice lo3 0 lc3] 25) = w6) := Lib.hid hw
  have HBX := Lib.hid hb
  clear hw hb HA q
  go_upto_region 3 with fail
  rw [HWX.out]
  try rw [HBX.out]
  clear HWX HBX
  go_wp2_with fail
  (with_reducible refine (HDY.out w6).mono ?_)
  rintro e w7 ⟨dco, dcc, rfl, hd, q⟩
  have KW := Lib.hid (KW.out.trans (q.mono KW.out.size))
  have Xb1 := Lib.hid (Xb1.out.keep q)
  have Xb3 := Lib.hid (Xb3.out.keep q)
  have HD : Hid ((daysF dco dcc).At w7) := Lib.hid (at_days hd.out)
  clear hd q
  have HCT : Hid (Calls Try.prog 20 #[.agg #[.int .i64 1, .int .i64 1, .slice dco 1 dcc, .slice none 0 0], .int .i64 2, .int .i64 4] w7 fun e w' => (∃ ao5 ac5 lo5 lc5, e = .returned (.tuple #[.agg #[.int .i64 0, .int .i64 0, .slice ao5 0 ac5, .slice lo5 3 lc5], .int .i64 0]) ∧ Hid (Fv.At (⟨0, 0, ao5, 0, ac5, lo5, 3, lc5, [], someOs⟩ : Fv) w')) ∧ Hid (Below w7.heap.size w7 w')) := Lib.hid ((ex_some dco dcc w7 HD.out).mono (by rintro e w' ⟨a, b, c, d, h1, h2, h3⟩; exact ⟨⟨a, b, c, d, h1, h2⟩, h3⟩))
  go_wp2_with fail
  (with_reducible refine (HCT.out).mono ?_)
  rintro e w8 ⟨⟨ao5, ac5, lo5, lc5, rfl, ha⟩, q'⟩
  have q := q'.out
  have KW := Lib.hid (KW.out.trans (q.mono KW.out.size))
  have Xb1 := Lib.hid (Xb1.out.keep q)
  have Xb3 := Lib.hid (Xb3.out.keep q)
  have HA := ha
  clear ha HD HCT q
  obtain ⟨b5, hb⟩ : ∃ z, w8.heap.size = z := ⟨_, rfl⟩
  obtain ⟨w9, hw⟩ : ∃ z, w8.alloc (.cells ((⟨0, 0, ao5, 0, ac5, lo5, 3, lc5, [], someOs⟩ : Fv) : Fv).box 25) = z := ⟨_, rfl⟩
  have q : Below w8.heap.size w8 w9 := by rw [← hw]; exact (Below.refl _ w8).alloc (Nat.le_refl _) _
  have Xb5 : Hid (Fo1 (⟨0, 0, ao5, 0, ac5, lo5, 3, lc5, [], someOs⟩ : Fv) w w9 b5) := Lib.hid (by rw [← hw]; exact fo1_new HA.out hb KW.out)
  have KW := Lib.hid (KW.out.trans (q.mono KW.out.size))
  have Xb1 := Lib.hid (Xb1.out.keep q)
  have Xb3 := Lib.hid (Xb3.out.keep q)
  have HWX : Hid (w8.alloc (.cells #[.int .i64 0, .int .i64 0, .slice ao5 0 ac5, .slice lo5 3 lc5] 25) = w9) := Lib.hid hw
  have HBX := Lib.hid hb
  clear hw hb HA q
  go_upto_region 4 with fail
  rw [HWX.out]
  try rw [HBX.out]
  clear HWX HBX
  go_wp2_with fail
  (with_reducible refine (HWK.out w9).mono ?_)
  rintro e w10 ⟨wco, wcc, rfl, hw, q⟩
  have KW := Lib.hid (KW.out.trans (q.mono KW.out.size))
  have Xb1 := Lib.hid (Xb1.out.keep q)
  have Xb3 := Lib.hid (Xb3.out.keep q)
  have Xb5 := Lib.hid (Xb5.out.keep q)
  have HCW := hw
  clear hw q
  obtain ⟨b7, hb⟩ : ∃ z, w10.heap.size = z := ⟨_, rfl⟩
  have HB7 := Lib.hid hb
  obtain ⟨w11, hw⟩ : ∃ z, w10.alloc (.cells #[.int .i64 7, .int .i64 1, .slice wco 1 wcc, .slice none 0 0] 25) = z := ⟨_, rfl⟩
  have HQ1 : Hid (Below w10.heap.size w10 w11) := Lib.hid (by rw [← hw]; exact (Below.refl _ w10).alloc (Nat.le_refl _) _)
  have Xw : Hid (Fo1 (weeksF 7 [] wco wcc none 0) w w11 b7) := Lib.hid (by rw [← hw]; exact fo1_new (at_weeks HCW.out) hb KW.out)
  have HWX := Lib.hid hw
  clear hw hb
  go_upto_region 5 with fail
  rw [HWX.out]
  try rw [HB7.out]
  clear HWX
  obtain ⟨g1, hg1⟩ : ∃ z, w11.heap.size = z := ⟨_, rfl⟩
  obtain ⟨g2, hg2⟩ : ∃ z, g1 + 1 = z := ⟨_, rfl⟩
  have HPA := two_box HCW.out HB7.out HQ1.out Xw.out (by have := KW.out.size; have := HB7.out; omega) hg1 hg2
  have kq := ((Below.refl _ w11).alloc (Nat.le_refl _) (.cells #[.int .i64 8, .int .i64 11] 50)).alloc (by simp) (.cells #[.int .i64 1, .slice (some ⟨g1, 0, none⟩) 1 1] 52)
  have HXK := Lib.hid (heap_keep Xw.out.box kq)
  have x3b : ((w11.alloc (.cells #[.int .i64 8, .int .i64 11] 50)).alloc (.cells #[.int .i64 1, .slice (some ⟨g1, 0, none⟩) 1 1] 52)).cell? ⟨b7, 3, none⟩ = some (.slice none 0 0) := cell_block HXK.out 3
  have f3b : ((w11.alloc (.cells #[.int .i64 8, .int .i64 11] 50)).alloc (.cells #[.int .i64 1, .slice (some ⟨g1, 0, none⟩) 1 1] 52)).frozen? ⟨b7, 3, none⟩ = false := free_blk HXK.out 3
  have x3 : w11.cell? ⟨b7, 3, none⟩ = some (.slice none 0 0) := cell_block Xw.out.box 3
  have f3 := free_blk Xw.out.box 3
  clear kq
  obtain ⟨w12, hw⟩ : ∃ z, ((w11.alloc (.cells #[.int .i64 8, .int .i64 11] 50)).alloc (.cells #[.int .i64 1, .slice (some ⟨g1, 0, none⟩) 1 1] 52)).setCell ⟨b7, 3, none⟩ (.slice (some ⟨g2, 0, none⟩) 1 1) = z := ⟨_, rfl⟩
  have X7 : Hid (Fo1 (weeksF 7 [(1, [(8, 11)])] wco wcc (some ⟨g2, 0, none⟩) 1) w w12 b7) := Lib.hid (by rw [← hw]; exact HPA.1)
  have q : Below w10.heap.size w10 w12 := by rw [← hw]; exact HPA.2
  have KW := Lib.hid (KW.out.trans (q.mono KW.out.size))
  have Xb1 := Lib.hid (Xb1.out.keep q)
  have Xb3 := Lib.hid (Xb3.out.keep q)
  have Xb5 := Lib.hid (Xb5.out.keep q)
  have HWX := Lib.hid hw
  clear q hw HPA Xw HCW HB7 HQ1
  go_upto_region 6 with fail
  rw [HWX.out]
  clear HWX hg1 hg2 x3b f3b HXK x3 f3
  have HCT : Hid (Calls Try.prog 8 #[.agg #[.int .i64 7, .int .i64 1, .slice wco 1 wcc, .slice (some ⟨g2, 0, none⟩) 1 1], .int .i64 2] w12 fun e w' => (∃ ao8 ac8 lo8 lc8, e = .returned (.tuple #[.agg #[.int .i64 14, .int .i64 1, .slice ao8 1 ac8, .slice lo8 1 lc8], .int .i64 0]) ∧ Hid (Fv.At (oneF 14 [(0, 4), (7, 11)] twoOs ao8 ac8 lo8 lc8) w')) ∧ Hid (Below w12.heap.size w12 w')) := Lib.hid ((ex_two wco wcc (some ⟨g2, 0, none⟩) 1 w12 X7.out.at_).mono (by rintro e w' ⟨a, b, c, d, h1, h2, h3⟩; exact ⟨⟨a, b, c, d, h1, h2⟩, h3⟩))
  have x0 := cell_block X7.out.box 0
  have x1 := cell_block X7.out.box 1
  have x2 := cell_block X7.out.box 2
  have x3 := cell_block X7.out.box 3
  go_wp2_with fail
  (with_reducible refine (HCT.out).mono ?_)
  rintro e w13 ⟨⟨ao8, ac8, lo8, lc8, rfl, ha⟩, q'⟩
  have q := q'.out
  have KW := Lib.hid (KW.out.trans (q.mono KW.out.size))
  have Xb1 := Lib.hid (Xb1.out.keep q)
  have Xb3 := Lib.hid (Xb3.out.keep q)
  have Xb5 := Lib.hid (Xb5.out.keep q)
  have HA := ha
  clear ha HCT q x0 x1 x2 x3 X7
  obtain ⟨b8, hb⟩ : ∃ z, w13.heap.size = z := ⟨_, rfl⟩
  obtain ⟨w14, hw⟩ : ∃ z, w13.alloc (.cells ((oneF 14 [(0, 4), (7, 11)] twoOs ao8 ac8 lo8 lc8) : Fv).box 25) = z := ⟨_, rfl⟩
  have q : Below w13.heap.size w13 w14 := by rw [← hw]; exact (Below.refl _ w13).alloc (Nat.le_refl _) _
  have Xb8 : Hid (Fo1 (oneF 14 [(0, 4), (7, 11)] twoOs ao8 ac8 lo8 lc8) w w14 b8) := Lib.hid (by rw [← hw]; exact fo1_new HA.out hb KW.out)
  have KW := Lib.hid (KW.out.trans (q.mono KW.out.size))
  have Xb1 := Lib.hid (Xb1.out.keep q)
  have Xb3 := Lib.hid (Xb3.out.keep q)
  have Xb5 := Lib.hid (Xb5.out.keep q)
  have HWX : Hid (w13.alloc (.cells #[.int .i64 14, .int .i64 1, .slice ao8 1 ac8, .slice lo8 1 lc8] 25) = w14) := Lib.hid hw
  have HBX := Lib.hid hb
  clear hw hb HA q
  go_upto_region 7 with fail
  rw [HWX.out]
  try rw [HBX.out]
  clear HWX HBX
  have HCT : Hid (Calls Try.prog 13 #[.agg #[.int .i64 1, .int .i64 1, .slice ao3 1 ac3, .slice lo3 0 lc3], .int .i64 0] w14 fun e w' => (∃ ao c, e = .returned (.tuple #[.slice ao 1 c, .int .i64 0]) ∧ Hid (SpAt w' ao 1 c [(-3, -3)])) ∧ Hid (Below w14.heap.size w14 w')) := Lib.hid (get_later ao3 ac3 lo3 lc3 w14 Xb3.out.at_)
  have x0 := cell_block Xb3.out.box 0
  have x1 := cell_block Xb3.out.box 1
  have x2 := cell_block Xb3.out.box 2
  have x3 := cell_block Xb3.out.box 3
  go_wp2_with fail
  (with_reducible refine (HCT.out).mono ?_)
  rintro e w15 ⟨⟨lo, lc, rfl, hl⟩, q'⟩
  have q := q'.out
  have KW := Lib.hid (KW.out.trans (q.mono KW.out.size))
  have Xb1 := Lib.hid (Xb1.out.keep q)
  have Xb3 := Lib.hid (Xb3.out.keep q)
  have Xb5 := Lib.hid (Xb5.out.keep q)
  have Xb8 := Lib.hid (Xb8.out.keep q)
  have HL := hl
  clear hl HCT q x0 x1 x2 x3
  go_wp2_with fail
  (with_reducible refine (HDY.out w15).mono ?_)
  rintro e w16 ⟨dco, dcc, rfl, hd, q⟩
  have KW := Lib.hid (KW.out.trans (q.mono KW.out.size))
  have Xb1 := Lib.hid (Xb1.out.keep q)
  have Xb3 := Lib.hid (Xb3.out.keep q)
  have Xb5 := Lib.hid (Xb5.out.keep q)
  have Xb8 := Lib.hid (Xb8.out.keep q)
  have HL := Lib.hid (HL.out.keep q)
  have HD : Hid ((daysF dco dcc).At w16) := Lib.hid (at_days hd.out)
  clear hd q
  have HCT : Hid (Calls Try.prog 8 #[.agg #[.int .i64 1, .int .i64 1, .slice dco 1 dcc, .slice none 0 0], .int .i64 0] w16 fun e w' => (e = .returned (.tuple #[.agg #[.int .i64 0, .int .i64 0, .slice none 0 0, .slice none 0 0], .int .i64 2])) ∧ Hid (Below w16.heap.size w16 w')) := Lib.hid ((group_bad (daysF dco dcc) 0 w16 HD.out (by decide)))
  go_wp2_with fail
  (with_reducible refine (HCT.out).mono ?_)
  rintro e w17 ⟨rfl, q'⟩
  have q := q'.out
  have KW := Lib.hid (KW.out.trans (q.mono KW.out.size))
  have Xb1 := Lib.hid (Xb1.out.keep q)
  have Xb3 := Lib.hid (Xb3.out.keep q)
  have Xb5 := Lib.hid (Xb5.out.keep q)
  have Xb8 := Lib.hid (Xb8.out.keep q)
  have HL := Lib.hid (HL.out.keep q)
  clear HD HCT q
  obtain ⟨w18, hw⟩ : ∃ z, w17.alloc (.cells #[.int .i64 0, .int .i64 0, .slice none 0 0, .slice none 0 0] 25) = z := ⟨_, rfl⟩
  have q : Below w17.heap.size w17 w18 := by rw [← hw]; exact (Below.refl _ w17).alloc (Nat.le_refl _) _
  have KW := Lib.hid (KW.out.trans (q.mono KW.out.size))
  have Xb1 := Lib.hid (Xb1.out.keep q)
  have Xb3 := Lib.hid (Xb3.out.keep q)
  have Xb5 := Lib.hid (Xb5.out.keep q)
  have Xb8 := Lib.hid (Xb8.out.keep q)
  have HL := Lib.hid (HL.out.keep q)
  have HWX := Lib.hid hw
  clear hw q
  go_upto_region 9 with fail
  rw [HWX.out]
  clear HWX
  go_wp2_with fail
  (with_reducible refine (HDY.out w18).mono ?_)
  rintro e w19 ⟨dco, dcc, rfl, hd, q⟩
  have KW := Lib.hid (KW.out.trans (q.mono KW.out.size))
  have Xb1 := Lib.hid (Xb1.out.keep q)
  have Xb3 := Lib.hid (Xb3.out.keep q)
  have Xb5 := Lib.hid (Xb5.out.keep q)
  have Xb8 := Lib.hid (Xb8.out.keep q)
  have HL := Lib.hid (HL.out.keep q)
  have HD : Hid ((daysF dco dcc).At w19) := Lib.hid (at_days hd.out)
  clear hd q
  have HCT : Hid (Calls Try.prog 20 #[.agg #[.int .i64 1, .int .i64 1, .slice dco 1 dcc, .slice none 0 0], .int .i64 2, .int .i64 1] w19 fun e w' => (e = .returned (.tuple #[.agg #[.int .i64 0, .int .i64 0, .slice none 0 0, .slice none 0 0], .int .i64 2])) ∧ Hid (Below w19.heap.size w19 w')) := Lib.hid ((subset_bad (daysF dco dcc) 2 1 w19 HD.out (by decide) (by decide) (by decide) (by decide) (fun h => by have := h.2.2; omega)))
  go_wp2_with fail
  (with_reducible refine (HCT.out).mono ?_)
  rintro e w20 ⟨rfl, q'⟩
  have q := q'.out
  have KW := Lib.hid (KW.out.trans (q.mono KW.out.size))
  have Xb1 := Lib.hid (Xb1.out.keep q)
  have Xb3 := Lib.hid (Xb3.out.keep q)
  have Xb5 := Lib.hid (Xb5.out.keep q)
  have Xb8 := Lib.hid (Xb8.out.keep q)
  have HL := Lib.hid (HL.out.keep q)
  clear HD HCT q
  obtain ⟨w21, hw⟩ : ∃ z, w20.alloc (.cells #[.int .i64 0, .int .i64 0, .slice none 0 0, .slice none 0 0] 25) = z := ⟨_, rfl⟩
  have q : Below w20.heap.size w20 w21 := by rw [← hw]; exact (Below.refl _ w20).alloc (Nat.le_refl _) _
  have KW := Lib.hid (KW.out.trans (q.mono KW.out.size))
  have Xb1 := Lib.hid (Xb1.out.keep q)
  have Xb3 := Lib.hid (Xb3.out.keep q)
  have Xb5 := Lib.hid (Xb5.out.keep q)
  have Xb8 := Lib.hid (Xb8.out.keep q)
  have HL := Lib.hid (HL.out.keep q)
  have HWX := Lib.hid hw
  clear hw q
  go_upto_region 10 with fail
  rw [HWX.out]
  clear HWX
  obtain ⟨h1, e1⟩ : ∃ z, w21.heap.size = z := ⟨_, rfl⟩
  obtain ⟨h2, e2⟩ : ∃ z, h1 + 1 = z := ⟨_, rfl⟩
  obtain ⟨h3, e3⟩ : ∃ z, h2 + 1 = z := ⟨_, rfl⟩
  obtain ⟨w22, hw⟩ : ∃ z, ((w21.alloc (.cells #[.int .i64 0, .int .i64 0] 50)).alloc (.cells #[.slice (some ⟨h1, 0, none⟩) 1 1] 34)).alloc (.cells #[.int .i64 549755813888, .int .i64 1, .slice (some ⟨h2, 0, none⟩) 1 1, .slice none 0 0] 25) = z := ⟨_, rfl⟩
  have HWB := wide_box e1 e2 e3
  rw [hw] at HWB
  have X16 : Hid (Fo1 (wideF (some ⟨h2, 0, none⟩) 1) w21 w22 h3) := Lib.hid HWB
  have q := X16.out.bw
  have KW := Lib.hid (KW.out.trans (q.mono KW.out.size))
  have Xb1 := Lib.hid (Xb1.out.keep q)
  have Xb3 := Lib.hid (Xb3.out.keep q)
  have Xb5 := Lib.hid (Xb5.out.keep q)
  have Xb8 := Lib.hid (Xb8.out.keep q)
  have HL := Lib.hid (HL.out.keep q)
  have HWX := Lib.hid hw
  have HE1 := Lib.hid e1
  have HE2 := Lib.hid e2
  have HE3 := Lib.hid e3
  clear hw q e1 e2 e3 HWB
  go_upto_region 11 with fail
  try rw [HE1.out]
  try rw [HE2.out]
  try rw [HE3.out]
  rw [HWX.out]
  clear HWX HE1 HE2 HE3
  have HCT : Hid (Calls Try.prog 8 #[.agg #[.int .i64 549755813888, .int .i64 1, .slice (some ⟨h2, 0, none⟩) 1 1, .slice none 0 0], .int .i64 4] w22 fun e w' => e = .returned (.tuple #[.agg #[.int .i64 0, .int .i64 0, .slice none 0 0, .slice none 0 0], .int .i64 20]) ∧ Hid (Below w22.heap.size w22 w')) := Lib.hid (ex_wide (some ⟨h2, 0, none⟩) 1 w22 X16.out.at_)
  have x0 := cell_block X16.out.box 0
  have x1 := cell_block X16.out.box 1
  have x2 := cell_block X16.out.box 2
  have x3 := cell_block X16.out.box 3
  go_wp2_with fail
  (with_reducible refine (HCT.out).mono ?_)
  rintro e w23 ⟨rfl, q'⟩
  have q := q'.out
  have KW := Lib.hid (KW.out.trans (q.mono KW.out.size))
  have Xb1 := Lib.hid (Xb1.out.keep q)
  have Xb3 := Lib.hid (Xb3.out.keep q)
  have Xb5 := Lib.hid (Xb5.out.keep q)
  have Xb8 := Lib.hid (Xb8.out.keep q)
  have HL := Lib.hid (HL.out.keep q)
  clear HCT q x0 x1 x2 x3 X16
  have q : Below w23.heap.size w23 (w23.alloc (.cells #[.int .i64 0, .int .i64 0, .slice none 0 0, .slice none 0 0] 25)) := (Below.refl _ w23).alloc (Nat.le_refl _) _
  have KW := Lib.hid (KW.out.trans (q.mono KW.out.size))
  have Y1 := Lib.hid (Xb1.out.keep q)
  have Y5 := Lib.hid (Xb5.out.keep q)
  have Y8 := Lib.hid (Xb8.out.keep q)
  have HL := Lib.hid (HL.out.keep q)
  clear q
  obtain ⟨p1, q1, e1, hc⟩ := Y1.out.at_.core.here (show 0 < 1 by decide)
  obtain ⟨so, sn, sc, hcell, hsp⟩ := hc 0 (show 0 < 1 by decide)
  have e1 : ao1 = some ⟨p1, q1, none⟩ := e1
  subst e1
  have hsp : SpAt (w23.alloc (.cells #[.int .i64 0, .int .i64 0, .slice none 0 0, .slice none 0 0] 25)) so sn sc [(0, 6)] := hsp
  obtain rfl : 1 = sn := hsp.len
  have hcell : (w23.alloc (.cells #[.int .i64 0, .int .i64 0, .slice none 0 0, .slice none 0 0] 25)).cell? ⟨p1, q1, none⟩ = some (.slice so 1 sc) := hcell
  have HS1 := Lib.hid hsp
  have y10 : (w23.alloc (.cells #[.int .i64 0, .int .i64 0, .slice none 0 0, .slice none 0 0] 25)).cell? ⟨b1, 0, none⟩ = some (.int .i64 7) := cell_block Y1.out.box 0
  have y11 : (w23.alloc (.cells #[.int .i64 0, .int .i64 0, .slice none 0 0, .slice none 0 0] 25)).cell? ⟨b1, 1, none⟩ = some (.int .i64 1) := cell_block Y1.out.box 1
  have y12 : (w23.alloc (.cells #[.int .i64 0, .int .i64 0, .slice none 0 0, .slice none 0 0] 25)).cell? ⟨b1, 2, none⟩ = some (.slice (some ⟨p1, q1, none⟩) 1 ac1) := cell_block Y1.out.box 2
  clear hc hsp
  have CA : Hid (∀ W ao n c bo m d a b, SpAt W ao n c a → SpAt W bo m d b → ∀ r : Bool, (r = true ↔ a = b) → Calls Try.prog 22 #[.slice ao n c, .slice bo m d] W fun e w' => e = .returned (.bool r) ∧ Below W.heap.size W w') := Lib.hid (fun W ao n c bo m d a b ha hb r hr => alike_any ao bo n c m d a b W ha hb r hr)
  go_wp2_with fail
  have q : Below (w23.alloc (.cells #[.int .i64 0, .int .i64 0, .slice none 0 0, .slice none 0 0] 25)).heap.size (w23.alloc (.cells #[.int .i64 0, .int .i64 0, .slice none 0 0, .slice none 0 0] 25)) ((w23.alloc (.cells #[.int .i64 0, .int .i64 0, .slice none 0 0, .slice none 0 0] 25)).alloc (.cells #[.int .i64 0, .int .i64 6] 50)) := (Below.refl _ _).alloc (Nat.le_refl _) _
  have HB : Hid (SpAt ((w23.alloc (.cells #[.int .i64 0, .int .i64 0, .slice none 0 0, .slice none 0 0] 25)).alloc (.cells #[.int .i64 0, .int .i64 6] 50)) (some ⟨w23.heap.size + 1, 0, none⟩) 1 1 [(0, 6)]) := Lib.hid (sp_block1 (heap_at (by simp)))
  (with_reducible refine (CA.out _ _ _ _ _ _ _ _ _ (HS1.out.keep q) HB.out true (by simp)).mono ?_)
  rintro e w24 ⟨rfl, q2⟩
  have q3 := q.trans (q2.mono q.size)
  have KW := Lib.hid (KW.out.trans (q3.mono KW.out.size))
  have Y5 := Lib.hid (Y5.out.keep q3)
  have Y8 := Lib.hid (Y8.out.keep q3)
  have HL := Lib.hid (HL.out.keep q3)
  clear q q2 q3 HB HS1 Y1 y10 y11 y12 hcell
  go_wp2_with fail
  have q : Below w24.heap.size w24 (w24.alloc (.cells #[.int .i64 (-3), .int .i64 (-3)] 50)) := (Below.refl _ _).alloc (Nat.le_refl _) _
  have HB : Hid (SpAt (w24.alloc (.cells #[.int .i64 (-3), .int .i64 (-3)] 50)) (some ⟨w24.heap.size, 0, none⟩) 1 1 [(-3, -3)]) := Lib.hid (sp_block1 (heap_at rfl))
  (with_reducible refine (CA.out _ _ _ _ _ _ _ _ _ (HL.out.keep q) HB.out true (by simp)).mono ?_)
  rintro e w25 ⟨rfl, q2⟩
  have q3 := q.trans (q2.mono q.size)
  have KW := Lib.hid (KW.out.trans (q3.mono KW.out.size))
  have Y5 := Lib.hid (Y5.out.keep q3)
  have Y8 := Lib.hid (Y8.out.keep q3)
  clear q q2 q3 HB HL CA
  have y53 : w25.cell? ⟨b5, 3, none⟩ = some (.slice lo5 3 lc5) := cell_block Y5.out.box 3
  have y51 : w25.cell? ⟨b5, 1, none⟩ = some (.int .i64 0) := cell_block Y5.out.box 1
  have y83 : w25.cell? ⟨b8, 3, none⟩ = some (.slice lo8 1 lc8) := cell_block Y8.out.box 3
  obtain ⟨p5, q5, e5, hc5⟩ := Y5.out.at_.odd.here (show 0 < 3 by decide)
  obtain ⟨c5, _, _, _⟩ := hc5 0 (show 0 < 3 by decide)
  have e5 : lo5 = some ⟨p5, q5, none⟩ := e5
  subst e5
  have c5 : w25.cell? ⟨p5, q5, none⟩ = some (.int .i64 2) := c5
  obtain ⟨p8, q8, e8, hc8⟩ := Y8.out.at_.odd.here (show 0 < 1 by decide)
  obtain ⟨c8, _, _, _⟩ := hc8 0 (show 0 < 1 by decide)
  have e8 : lo8 = some ⟨p8, q8, none⟩ := e8
  subst e8
  have c8 : w25.cell? ⟨p8, q8, none⟩ = some (.int .i64 0) := c8
  clear hc5 hc8
  go_wp2
  go_returns
  exact ⟨rfl, KW.out⟩
end Go.Proofs.Ytmjapbjjfhmohaa
