/- SpansAhead: the walk. -/
import Derived.Test.YthjpnnggghfepaaV1
import Derived.Test.YthjpnnggghfepaaU9
namespace Go.Proofs.Ythjpnnggghfepaa
set_option linter.unusedVariables false
set_option linter.unusedSimpArgs false
open Go.ChangeShapes Go.WideShapes Go.ChangeAt Go.RowKit
set_option maxHeartbeats 4000000 in
set_option maxRecDepth 10000 in
theorem ahead_law (A0 B0 C0 : Option Addr) (m1 m2 m3 d1 d2 d3 : Nat) (l1 l2 l3 : List Sp) (w : World) (h1 : SpAt w A0 m1 d1 l1) (h2 : SpAt w B0 m2 d2 l2) (h3 : SpAt w C0 m3 d3 l3) :
    Calls Try.prog 8 #[.slice A0 m1 d1, .slice B0 m2 d2, .slice C0 m3 d3] w fun e w' => e = .returned (.bool true) ∧ Below w.heap.size w w' := by
  go_enter Try.func8, Try.ntmps8
  go_upto_region 2 with (first
    | (go_at_call 33; (with_reducible refine (made_any A0 m1 d1 l1 w h1).mono ?_); rintro e w1 ⟨ao, n1, c1, a, rfl, ga, e1, s1, q1⟩)
    | (go_at_call 33; (with_reducible refine (made_any B0 m2 d2 l2 w1 (h2.keep q1)).mono ?_); rintro e w2 ⟨bo, n2, c2, b, rfl, gb, e2, s2, q2⟩)
    | (go_at_call 33; (with_reducible refine (made_any C0 m3 d3 l3 w2 ((h3.keep q1).keep q2)).mono ?_); rintro e w3 ⟨co, n3, c3, c, rfl, gc, e3, s3, q3⟩))
  have SA := Lib.hid ((s1.keep q2).keep q3)
  have SB := Lib.hid (s2.keep q3)
  have SC := Lib.hid s3
  have B3 := Lib.hid (q1.trans ((q2.trans (q3.mono q2.size)).mono q1.size))
  clear s1 s2 s3 q1 q2 q3
  go_upto_region 3 with (go_at_call 30; (with_reducible refine (hull_v ao n1 c1 a w3 SA.out).mono ?_); rintro e w4 ⟨x1, y1, ok1, rfl, F1, q4⟩)
  have q5 := q4.trans (((Below.refl _ w4).alloc (Nat.le_refl _) (.cells #[.int .i64 x1, .int .i64 y1] 35)).mono q4.size)
  have f1 := (box_cells w4 (.int .i64 x1) (.int .i64 y1) 35).1
  have f2 := (box_cells w4 (.int .i64 x1) (.int .i64 y1) 35).2
  obtain ⟨bx, hbx⟩ : ∃ bx, w4.heap.size = bx := ⟨_, rfl⟩
  obtain ⟨w5, hw5⟩ : ∃ w5, w4.alloc (.cells #[.int .i64 x1, .int .i64 y1] 35) = w5 := ⟨_, rfl⟩
  rw [hw5] at q5 f1 f2
  rw [hbx] at f1 f2
  rw [hw5, hbx]
  clear hw5 hbx q4
  have SA5 := Lib.hid (SA.out.keep q5)
  have SB5 := Lib.hid (SB.out.keep q5)
  have SC5 := Lib.hid (SC.out.keep q5)
  have B5 := Lib.hid (B3.out.trans (q5.mono B3.out.size))
  clear q5 SA SB SC B3
  go_upto_region 4 with (go_at_call 30; (with_reducible refine (hull_v bo n2 c2 b w5 SB5.out).mono ?_); rintro e w6 ⟨x2, y2, ok2, rfl, F2, q6⟩)
  have q7 := q6.trans (((Below.refl _ w6).alloc (Nat.le_refl _) (.cells #[.int .i64 x2, .int .i64 y2] 35)).mono q6.size)
  have f3 := (box_cells w6 (.int .i64 x2) (.int .i64 y2) 35).1
  have f4 := (box_cells w6 (.int .i64 x2) (.int .i64 y2) 35).2
  obtain ⟨cx, hcx⟩ : ∃ bx, w6.heap.size = bx := ⟨_, rfl⟩
  obtain ⟨w7, hw7⟩ : ∃ w7, w6.alloc (.cells #[.int .i64 x2, .int .i64 y2] 35) = w7 := ⟨_, rfl⟩
  rw [hw7] at q7 f3 f4
  rw [hcx] at f3 f4
  rw [hw7, hcx]
  clear hw7 hcx q6
  have HT : Hid (Th w w7 ao bo co n1 n2 n3 c1 c2 c3 a b c bx cx x1 y1 x2 y2) := Lib.hid ⟨SA5.out.keep q7, SB5.out.keep q7, SC5.out.keep q7, cell_keep f1 q7, cell_keep f2 q7, f3, f4, B5.out.trans (q7.mono B5.out.size)⟩
  clear SA5 SB5 SC5 B5 q7 f1 f2 f3 f4
  have f1 := HT.out.f1
  have f2 := HT.out.f2
  have f3 := HT.out.f3
  have f4 := HT.out.f4
  have la := HT.out.pa.len
  have lb := HT.out.pb.len
  obtain ⟨r1, hr1⟩ : ∃ r : Bool, r = true ↔ Ahd a b := by classical exact ⟨decide (Ahd a b), decide_eq_true_iff⟩
  obtain ⟨r2, hr2⟩ : ∃ r : Bool, r = true ↔ Ahd b c := by classical exact ⟨decide (Ahd b c), decide_eq_true_iff⟩
  obtain ⟨r3, hr3⟩ : ∃ r : Bool, r = true ↔ Ahd a c := by classical exact ⟨decide (Ahd a c), decide_eq_true_iff⟩
  obtain ⟨r6, hr6⟩ : ∃ r : Bool, r = true ↔ Ahd a a := by classical exact ⟨decide (Ahd a a), decide_eq_true_iff⟩
  obtain ⟨rm, hrm⟩ : ∃ r : Bool, r = true ↔ ∃ t, mem a t ∧ mem b t := by classical exact ⟨decide _, decide_eq_true_iff⟩
  obtain ⟨p1, hp1⟩ : ∃ r : Bool, r = true ↔ mem a x1 := by classical exact ⟨decide _, decide_eq_true_iff⟩
  obtain ⟨p2, hp2⟩ : ∃ r : Bool, r = true ↔ mem a y1 := by classical exact ⟨decide _, decide_eq_true_iff⟩
  obtain ⟨p3, hp3⟩ : ∃ r : Bool, r = true ↔ mem a (x1 - 1) := by classical exact ⟨decide _, decide_eq_true_iff⟩
  obtain ⟨p4, hp4⟩ : ∃ r : Bool, r = true ↔ mem a (y1 + 1) := by classical exact ⟨decide _, decide_eq_true_iff⟩
  have K1 := Lib.hid (fun W (h : Th w W ao bo co n1 n2 n3 c1 c2 c3 a b c bx cx x1 y1 x2 y2) => ahead_any ao bo n1 c1 n2 c2 a b W h.pa h.pb ga gb r1 hr1)
  have K2 := Lib.hid (fun W (h : Th w W ao bo co n1 n2 n3 c1 c2 c3 a b c bx cx x1 y1 x2 y2) => ahead_any bo co n2 c2 n3 c3 b c W h.pb h.pc gb gc r2 hr2)
  have K3 := Lib.hid (fun W (h : Th w W ao bo co n1 n2 n3 c1 c2 c3 a b c bx cx x1 y1 x2 y2) => ahead_any ao co n1 c1 n3 c3 a c W h.pa h.pc ga gc r3 hr3)
  have K4 := Lib.hid (fun W (h : Th w W ao bo co n1 n2 n3 c1 c2 c3 a b c bx cx x1 y1 x2 y2) => ahead_any none bo 0 0 n2 c2 [] b W (SpAt.nil W) h.pb trivial gb true (by simp))
  have K5 := Lib.hid (fun W (h : Th w W ao bo co n1 n2 n3 c1 c2 c3 a b c bx cx x1 y1 x2 y2) => ahead_any ao none n1 c1 0 0 a [] W h.pa (SpAt.nil W) ga trivial true (by simp))
  have K6 := Lib.hid (fun W (h : Th w W ao bo co n1 n2 n3 c1 c2 c3 a b c bx cx x1 y1 x2 y2) => ahead_any ao ao n1 c1 n1 c1 a a W h.pa h.pa ga ga r6 hr6)
  have KM := Lib.hid (fun W (h : Th w W ao bo co n1 n2 n3 c1 c2 c3 a b c bx cx x1 y1 x2 y2) => meet_any ao bo n1 c1 n2 c2 a b W h.pa h.pb ga gb (by omega) (by omega) rm hrm)
  have H1 := Lib.hid (fun W (h : Th w W ao bo co n1 n2 n3 c1 c2 c3 a b c bx cx x1 y1 x2 y2) => has_any ao n1 c1 a x1 W h.pa ga (by omega) p1 hp1)
  have H2 := Lib.hid (fun W (h : Th w W ao bo co n1 n2 n3 c1 c2 c3 a b c bx cx x1 y1 x2 y2) => has_any ao n1 c1 a y1 W h.pa ga (by omega) p2 hp2)
  have H3 := Lib.hid (fun W (h : Th w W ao bo co n1 n2 n3 c1 c2 c3 a b c bx cx x1 y1 x2 y2) => has_any ao n1 c1 a (x1 - 1) W h.pa ga (by omega) p3 hp3)
  have H4 := Lib.hid (fun W (h : Th w W ao bo co n1 n2 n3 c1 c2 c3 a b c bx cx x1 y1 x2 y2) => has_any ao n1 c1 a (y1 + 1) W h.pa ga (by omega) p4 hp4)
  obtain ⟨ex1, ey1, hk1⟩ := F1.out
  obtain ⟨ex2, ey2, hk2⟩ := F2.out
  have EM : r1 = true → rm = false := fun h => by cases rm; rfl; exact absurd (hrm.1 rfl) (ahd_meet (hr1.1 h))
  have HM : a ≠ [] → 0 < n1 ∧ ok1 = true ∧ p1 = true ∧ p2 = true ∧ p3 = false ∧ p4 = false ∧ r6 = false ∧ (-1099511627776 ≤ x1 ∧ x1 ≤ 1099511627776 ∧ -1099511627776 ≤ y1 ∧ y1 ≤ 1099511627776) := fun h => by
    have la' : 0 < a.length := List.length_pos_iff.2 h
    have q := hull_mem ga h
    rw [← ex1, ← ey1] at q
    refine ⟨by omega, by rw [hk1]; simp; omega, hp1.2 q.1, hp2.2 q.2.1, ?_, ?_, ?_, q.2.2.2.2⟩
    · cases p3; rfl; exact absurd (hp3.1 rfl) q.2.2.1
    · cases p4; rfl; exact absurd (hp4.1 rfl) q.2.2.2.1
    · cases r6; rfl; exact absurd (hr6.1 rfl) (ahd_self ga h)
  have HA : a = [] → n1 = 0 ∧ ok1 = false ∧ r1 = true ∧ r3 = true := fun h => by
    have : n1 = 0 := by rw [← la, h]; rfl
    exact ⟨this, by rw [hk1, this]; rfl, hr1.2 (by subst h; intro s hs; cases hs), hr3.2 (by subst h; intro s hs; cases hs)⟩
  by_cases hb : b = []
  · have hn2 : n2 = 0 := by rw [← lb, hb]; rfl
    have er1 : r1 = true := hr1.2 (by subst hb; intro s hs u hu; cases hu)
    have em := EM er1
    have eok : ok2 = false := by rw [hk2, hn2]; rfl
    by_cases ha : a = []
    · obtain ⟨hn1, eok1, _, er3⟩ := HA ha
      have t1 : ((n1 : Int) == 0) = true := by simp; omega
      clear hr1 hr2 hr3 hr6 hrm hp1 hp2 hp3 hp4 EM ex1 ey1 ex2 ey2 hk1 hk2 F1 F2 ga gb gc e1 e2 e3 la lb h1 h2 h3 HM HA
      subst er1 em eok hn2 hn1 eok1 er3
      clear ha hb
      go_wp2_with (first
        | (go_at_call 25; (with_reducible refine (K1.out _ HT.out).mono ?_); rintro e z ⟨rfl, q⟩; have HT := Lib.hid (HT.out.keep q); have f1 := HT.out.f1; have f2 := HT.out.f2)
        | (go_at_call 25; (with_reducible refine (K2.out _ HT.out).mono ?_); rintro e z ⟨rfl, q⟩; have HT := Lib.hid (HT.out.keep q); have f1 := HT.out.f1; have f2 := HT.out.f2)
        | (go_at_call 25; (with_reducible refine (K3.out _ HT.out).mono ?_); rintro e z ⟨rfl, q⟩; have HT := Lib.hid (HT.out.keep q); have f1 := HT.out.f1; have f2 := HT.out.f2)
        | (go_at_call 25; (with_reducible refine (K4.out _ HT.out).mono ?_); rintro e z ⟨rfl, q⟩; have HT := Lib.hid (HT.out.keep q); have f1 := HT.out.f1; have f2 := HT.out.f2)
        | (go_at_call 25; (with_reducible refine (K5.out _ HT.out).mono ?_); rintro e z ⟨rfl, q⟩; have HT := Lib.hid (HT.out.keep q); have f1 := HT.out.f1; have f2 := HT.out.f2)
        | (go_at_call 25; (with_reducible refine (K6.out _ HT.out).mono ?_); rintro e z ⟨rfl, q⟩; have HT := Lib.hid (HT.out.keep q); have f1 := HT.out.f1; have f2 := HT.out.f2)
        | (go_at_call 24; (with_reducible refine (KM.out _ HT.out).mono ?_); rintro e z ⟨rfl, q⟩; have HT := Lib.hid (HT.out.keep q); have f1 := HT.out.f1; have f2 := HT.out.f2)
        | (go_at_call 21; (with_reducible refine (H1.out _ HT.out).mono ?_); rintro e z ⟨rfl, q⟩; have HT := Lib.hid (HT.out.keep q); have f1 := HT.out.f1; have f2 := HT.out.f2)
        | (go_at_call 21; (with_reducible refine (H2.out _ HT.out).mono ?_); rintro e z ⟨rfl, q⟩; have HT := Lib.hid (HT.out.keep q); have f1 := HT.out.f1; have f2 := HT.out.f2)
        | (go_at_call 21; (with_reducible refine (H3.out _ HT.out).mono ?_); rintro e z ⟨rfl, q⟩; have HT := Lib.hid (HT.out.keep q); have f1 := HT.out.f1; have f2 := HT.out.f2)
        | (go_at_call 21; (with_reducible refine (H4.out _ HT.out).mono ?_); rintro e z ⟨rfl, q⟩; have HT := Lib.hid (HT.out.keep q); have f1 := HT.out.f1; have f2 := HT.out.f2)
        | (go_at_call 9; (with_reducible refine (awake_any _).mono ?_); rintro e z ⟨rfl, q⟩; have HT := Lib.hid (HT.out.keep q)))
      go_returns
      exact ⟨rfl, HT.out.bw⟩
    · obtain ⟨hn1, eok1, g1, g2, g3, g4, g6, g7, g8, g9, g10⟩ := HM ha
      have t1 : ((n1 : Int) == 0) = false := by simp; omega
      clear hr1 hr2 hr3 hr6 hrm hp1 hp2 hp3 hp4 EM ex1 ey1 ex2 ey2 hk1 hk2 F1 F2 ga gb gc e1 e2 e3 la lb h1 h2 h3 HM HA
      subst er1 em eok hn2 eok1 g1 g2 g3 g4 g6
      clear ha hb
      go_wp2_with (first
        | (go_at_call 25; (with_reducible refine (K1.out _ HT.out).mono ?_); rintro e z ⟨rfl, q⟩; have HT := Lib.hid (HT.out.keep q); have f1 := HT.out.f1; have f2 := HT.out.f2)
        | (go_at_call 25; (with_reducible refine (K2.out _ HT.out).mono ?_); rintro e z ⟨rfl, q⟩; have HT := Lib.hid (HT.out.keep q); have f1 := HT.out.f1; have f2 := HT.out.f2)
        | (go_at_call 25; (with_reducible refine (K3.out _ HT.out).mono ?_); rintro e z ⟨rfl, q⟩; have HT := Lib.hid (HT.out.keep q); have f1 := HT.out.f1; have f2 := HT.out.f2)
        | (go_at_call 25; (with_reducible refine (K4.out _ HT.out).mono ?_); rintro e z ⟨rfl, q⟩; have HT := Lib.hid (HT.out.keep q); have f1 := HT.out.f1; have f2 := HT.out.f2)
        | (go_at_call 25; (with_reducible refine (K5.out _ HT.out).mono ?_); rintro e z ⟨rfl, q⟩; have HT := Lib.hid (HT.out.keep q); have f1 := HT.out.f1; have f2 := HT.out.f2)
        | (go_at_call 25; (with_reducible refine (K6.out _ HT.out).mono ?_); rintro e z ⟨rfl, q⟩; have HT := Lib.hid (HT.out.keep q); have f1 := HT.out.f1; have f2 := HT.out.f2)
        | (go_at_call 24; (with_reducible refine (KM.out _ HT.out).mono ?_); rintro e z ⟨rfl, q⟩; have HT := Lib.hid (HT.out.keep q); have f1 := HT.out.f1; have f2 := HT.out.f2)
        | (go_at_call 21; (with_reducible refine (H1.out _ HT.out).mono ?_); rintro e z ⟨rfl, q⟩; have HT := Lib.hid (HT.out.keep q); have f1 := HT.out.f1; have f2 := HT.out.f2)
        | (go_at_call 21; (with_reducible refine (H2.out _ HT.out).mono ?_); rintro e z ⟨rfl, q⟩; have HT := Lib.hid (HT.out.keep q); have f1 := HT.out.f1; have f2 := HT.out.f2)
        | (go_at_call 21; (with_reducible refine (H3.out _ HT.out).mono ?_); rintro e z ⟨rfl, q⟩; have HT := Lib.hid (HT.out.keep q); have f1 := HT.out.f1; have f2 := HT.out.f2)
        | (go_at_call 21; (with_reducible refine (H4.out _ HT.out).mono ?_); rintro e z ⟨rfl, q⟩; have HT := Lib.hid (HT.out.keep q); have f1 := HT.out.f1; have f2 := HT.out.f2)
        | (go_at_call 9; (with_reducible refine (awake_any _).mono ?_); rintro e z ⟨rfl, q⟩; have HT := Lib.hid (HT.out.keep q)))
      go_returns
      exact ⟨rfl, HT.out.bw⟩
  · have hn2 : 0 < n2 := by rw [← lb]; exact List.length_pos_iff.2 hb
    have t2 : (0 : Int) < (n2 : Int) := by omega
    have eok : ok2 = true := by rw [hk2]; simp; omega
    by_cases ha : a = []
    · obtain ⟨hn1, eok1, er1, er3⟩ := HA ha
      have em := EM er1
      have t1 : ((n1 : Int) == 0) = true := by simp; omega
      clear hr1 hr2 hr3 hr6 hrm hp1 hp2 hp3 hp4 EM ex1 ey1 ex2 ey2 hk1 hk2 F1 F2 ga gb gc e1 e2 e3 la lb h1 h2 h3 HM HA
      subst er1 em eok hn1 eok1 er3
      clear ha hb hn2
      cases r2
      · go_wp2_with (first
          | (go_at_call 25; (with_reducible refine (K1.out _ HT.out).mono ?_); rintro e z ⟨rfl, q⟩; have HT := Lib.hid (HT.out.keep q); have f1 := HT.out.f1; have f2 := HT.out.f2)
          | (go_at_call 25; (with_reducible refine (K2.out _ HT.out).mono ?_); rintro e z ⟨rfl, q⟩; have HT := Lib.hid (HT.out.keep q); have f1 := HT.out.f1; have f2 := HT.out.f2)
          | (go_at_call 25; (with_reducible refine (K3.out _ HT.out).mono ?_); rintro e z ⟨rfl, q⟩; have HT := Lib.hid (HT.out.keep q); have f1 := HT.out.f1; have f2 := HT.out.f2)
          | (go_at_call 25; (with_reducible refine (K4.out _ HT.out).mono ?_); rintro e z ⟨rfl, q⟩; have HT := Lib.hid (HT.out.keep q); have f1 := HT.out.f1; have f2 := HT.out.f2)
          | (go_at_call 25; (with_reducible refine (K5.out _ HT.out).mono ?_); rintro e z ⟨rfl, q⟩; have HT := Lib.hid (HT.out.keep q); have f1 := HT.out.f1; have f2 := HT.out.f2)
          | (go_at_call 25; (with_reducible refine (K6.out _ HT.out).mono ?_); rintro e z ⟨rfl, q⟩; have HT := Lib.hid (HT.out.keep q); have f1 := HT.out.f1; have f2 := HT.out.f2)
          | (go_at_call 24; (with_reducible refine (KM.out _ HT.out).mono ?_); rintro e z ⟨rfl, q⟩; have HT := Lib.hid (HT.out.keep q); have f1 := HT.out.f1; have f2 := HT.out.f2)
          | (go_at_call 21; (with_reducible refine (H1.out _ HT.out).mono ?_); rintro e z ⟨rfl, q⟩; have HT := Lib.hid (HT.out.keep q); have f1 := HT.out.f1; have f2 := HT.out.f2)
          | (go_at_call 21; (with_reducible refine (H2.out _ HT.out).mono ?_); rintro e z ⟨rfl, q⟩; have HT := Lib.hid (HT.out.keep q); have f1 := HT.out.f1; have f2 := HT.out.f2)
          | (go_at_call 21; (with_reducible refine (H3.out _ HT.out).mono ?_); rintro e z ⟨rfl, q⟩; have HT := Lib.hid (HT.out.keep q); have f1 := HT.out.f1; have f2 := HT.out.f2)
          | (go_at_call 21; (with_reducible refine (H4.out _ HT.out).mono ?_); rintro e z ⟨rfl, q⟩; have HT := Lib.hid (HT.out.keep q); have f1 := HT.out.f1; have f2 := HT.out.f2)
          | (go_at_call 9; (with_reducible refine (awake_any _).mono ?_); rintro e z ⟨rfl, q⟩; have HT := Lib.hid (HT.out.keep q)))
        go_returns
        exact ⟨rfl, HT.out.bw⟩
      · go_wp2_with (first
          | (go_at_call 25; (with_reducible refine (K1.out _ HT.out).mono ?_); rintro e z ⟨rfl, q⟩; have HT := Lib.hid (HT.out.keep q); have f1 := HT.out.f1; have f2 := HT.out.f2)
          | (go_at_call 25; (with_reducible refine (K2.out _ HT.out).mono ?_); rintro e z ⟨rfl, q⟩; have HT := Lib.hid (HT.out.keep q); have f1 := HT.out.f1; have f2 := HT.out.f2)
          | (go_at_call 25; (with_reducible refine (K3.out _ HT.out).mono ?_); rintro e z ⟨rfl, q⟩; have HT := Lib.hid (HT.out.keep q); have f1 := HT.out.f1; have f2 := HT.out.f2)
          | (go_at_call 25; (with_reducible refine (K4.out _ HT.out).mono ?_); rintro e z ⟨rfl, q⟩; have HT := Lib.hid (HT.out.keep q); have f1 := HT.out.f1; have f2 := HT.out.f2)
          | (go_at_call 25; (with_reducible refine (K5.out _ HT.out).mono ?_); rintro e z ⟨rfl, q⟩; have HT := Lib.hid (HT.out.keep q); have f1 := HT.out.f1; have f2 := HT.out.f2)
          | (go_at_call 25; (with_reducible refine (K6.out _ HT.out).mono ?_); rintro e z ⟨rfl, q⟩; have HT := Lib.hid (HT.out.keep q); have f1 := HT.out.f1; have f2 := HT.out.f2)
          | (go_at_call 24; (with_reducible refine (KM.out _ HT.out).mono ?_); rintro e z ⟨rfl, q⟩; have HT := Lib.hid (HT.out.keep q); have f1 := HT.out.f1; have f2 := HT.out.f2)
          | (go_at_call 21; (with_reducible refine (H1.out _ HT.out).mono ?_); rintro e z ⟨rfl, q⟩; have HT := Lib.hid (HT.out.keep q); have f1 := HT.out.f1; have f2 := HT.out.f2)
          | (go_at_call 21; (with_reducible refine (H2.out _ HT.out).mono ?_); rintro e z ⟨rfl, q⟩; have HT := Lib.hid (HT.out.keep q); have f1 := HT.out.f1; have f2 := HT.out.f2)
          | (go_at_call 21; (with_reducible refine (H3.out _ HT.out).mono ?_); rintro e z ⟨rfl, q⟩; have HT := Lib.hid (HT.out.keep q); have f1 := HT.out.f1; have f2 := HT.out.f2)
          | (go_at_call 21; (with_reducible refine (H4.out _ HT.out).mono ?_); rintro e z ⟨rfl, q⟩; have HT := Lib.hid (HT.out.keep q); have f1 := HT.out.f1; have f2 := HT.out.f2)
          | (go_at_call 9; (with_reducible refine (awake_any _).mono ?_); rintro e z ⟨rfl, q⟩; have HT := Lib.hid (HT.out.keep q)))
        go_returns
        exact ⟨rfl, HT.out.bw⟩
    · obtain ⟨hn1, eok1, g1, g2, g3, g4, g6, g7, g8, g9, g10⟩ := HM ha
      have t1 : ((n1 : Int) == 0) = false := by simp; omega
      have hah := ahd_hull ga gb ha hb
      rw [← ey1, ← ex2] at hah
      by_cases hlt : y1 < x2
      · have er1 : r1 = true := hr1.2 (hah.2 hlt)
        have em := EM er1
        cases hr : r2
        · rw [hr] at K2
          clear hr1 hr2 hr3 hr6 hrm hp1 hp2 hp3 hp4 EM ex1 ey1 ex2 ey2 hk1 hk2 F1 F2 ga gb gc e1 e2 e3 la lb h1 h2 h3 HM HA hah
          subst er1 em eok eok1 g1 g2 g3 g4 g6
          clear ha hb hn2
          go_wp2_with (first
            | (go_at_call 25; (with_reducible refine (K1.out _ HT.out).mono ?_); rintro e z ⟨rfl, q⟩; have HT := Lib.hid (HT.out.keep q); have f1 := HT.out.f1; have f2 := HT.out.f2)
            | (go_at_call 25; (with_reducible refine (K2.out _ HT.out).mono ?_); rintro e z ⟨rfl, q⟩; have HT := Lib.hid (HT.out.keep q); have f1 := HT.out.f1; have f2 := HT.out.f2)
            | (go_at_call 25; (with_reducible refine (K3.out _ HT.out).mono ?_); rintro e z ⟨rfl, q⟩; have HT := Lib.hid (HT.out.keep q); have f1 := HT.out.f1; have f2 := HT.out.f2)
            | (go_at_call 25; (with_reducible refine (K4.out _ HT.out).mono ?_); rintro e z ⟨rfl, q⟩; have HT := Lib.hid (HT.out.keep q); have f1 := HT.out.f1; have f2 := HT.out.f2)
            | (go_at_call 25; (with_reducible refine (K5.out _ HT.out).mono ?_); rintro e z ⟨rfl, q⟩; have HT := Lib.hid (HT.out.keep q); have f1 := HT.out.f1; have f2 := HT.out.f2)
            | (go_at_call 25; (with_reducible refine (K6.out _ HT.out).mono ?_); rintro e z ⟨rfl, q⟩; have HT := Lib.hid (HT.out.keep q); have f1 := HT.out.f1; have f2 := HT.out.f2)
            | (go_at_call 24; (with_reducible refine (KM.out _ HT.out).mono ?_); rintro e z ⟨rfl, q⟩; have HT := Lib.hid (HT.out.keep q); have f1 := HT.out.f1; have f2 := HT.out.f2)
            | (go_at_call 21; (with_reducible refine (H1.out _ HT.out).mono ?_); rintro e z ⟨rfl, q⟩; have HT := Lib.hid (HT.out.keep q); have f1 := HT.out.f1; have f2 := HT.out.f2)
            | (go_at_call 21; (with_reducible refine (H2.out _ HT.out).mono ?_); rintro e z ⟨rfl, q⟩; have HT := Lib.hid (HT.out.keep q); have f1 := HT.out.f1; have f2 := HT.out.f2)
            | (go_at_call 21; (with_reducible refine (H3.out _ HT.out).mono ?_); rintro e z ⟨rfl, q⟩; have HT := Lib.hid (HT.out.keep q); have f1 := HT.out.f1; have f2 := HT.out.f2)
            | (go_at_call 21; (with_reducible refine (H4.out _ HT.out).mono ?_); rintro e z ⟨rfl, q⟩; have HT := Lib.hid (HT.out.keep q); have f1 := HT.out.f1; have f2 := HT.out.f2)
            | (go_at_call 9; (with_reducible refine (awake_any _).mono ?_); rintro e z ⟨rfl, q⟩; have HT := Lib.hid (HT.out.keep q)))
          go_returns
          exact ⟨rfl, HT.out.bw⟩
        · have er3 : r3 = true := hr3.2 (ahd_trans gb hb (hr1.1 er1) (hr2.1 hr))
          rw [hr] at K2
          clear hr1 hr2 hr3 hr6 hrm hp1 hp2 hp3 hp4 EM ex1 ey1 ex2 ey2 hk1 hk2 F1 F2 ga gb gc e1 e2 e3 la lb h1 h2 h3 HM HA hah
          subst er1 em eok eok1 g1 g2 g3 g4 g6 er3
          clear ha hb hn2
          go_wp2_with (first
            | (go_at_call 25; (with_reducible refine (K1.out _ HT.out).mono ?_); rintro e z ⟨rfl, q⟩; have HT := Lib.hid (HT.out.keep q); have f1 := HT.out.f1; have f2 := HT.out.f2)
            | (go_at_call 25; (with_reducible refine (K2.out _ HT.out).mono ?_); rintro e z ⟨rfl, q⟩; have HT := Lib.hid (HT.out.keep q); have f1 := HT.out.f1; have f2 := HT.out.f2)
            | (go_at_call 25; (with_reducible refine (K3.out _ HT.out).mono ?_); rintro e z ⟨rfl, q⟩; have HT := Lib.hid (HT.out.keep q); have f1 := HT.out.f1; have f2 := HT.out.f2)
            | (go_at_call 25; (with_reducible refine (K4.out _ HT.out).mono ?_); rintro e z ⟨rfl, q⟩; have HT := Lib.hid (HT.out.keep q); have f1 := HT.out.f1; have f2 := HT.out.f2)
            | (go_at_call 25; (with_reducible refine (K5.out _ HT.out).mono ?_); rintro e z ⟨rfl, q⟩; have HT := Lib.hid (HT.out.keep q); have f1 := HT.out.f1; have f2 := HT.out.f2)
            | (go_at_call 25; (with_reducible refine (K6.out _ HT.out).mono ?_); rintro e z ⟨rfl, q⟩; have HT := Lib.hid (HT.out.keep q); have f1 := HT.out.f1; have f2 := HT.out.f2)
            | (go_at_call 24; (with_reducible refine (KM.out _ HT.out).mono ?_); rintro e z ⟨rfl, q⟩; have HT := Lib.hid (HT.out.keep q); have f1 := HT.out.f1; have f2 := HT.out.f2)
            | (go_at_call 21; (with_reducible refine (H1.out _ HT.out).mono ?_); rintro e z ⟨rfl, q⟩; have HT := Lib.hid (HT.out.keep q); have f1 := HT.out.f1; have f2 := HT.out.f2)
            | (go_at_call 21; (with_reducible refine (H2.out _ HT.out).mono ?_); rintro e z ⟨rfl, q⟩; have HT := Lib.hid (HT.out.keep q); have f1 := HT.out.f1; have f2 := HT.out.f2)
            | (go_at_call 21; (with_reducible refine (H3.out _ HT.out).mono ?_); rintro e z ⟨rfl, q⟩; have HT := Lib.hid (HT.out.keep q); have f1 := HT.out.f1; have f2 := HT.out.f2)
            | (go_at_call 21; (with_reducible refine (H4.out _ HT.out).mono ?_); rintro e z ⟨rfl, q⟩; have HT := Lib.hid (HT.out.keep q); have f1 := HT.out.f1; have f2 := HT.out.f2)
            | (go_at_call 9; (with_reducible refine (awake_any _).mono ?_); rintro e z ⟨rfl, q⟩; have HT := Lib.hid (HT.out.keep q)))
          go_returns
          exact ⟨rfl, HT.out.bw⟩
      · have er1 : r1 = false := by
          cases hr : r1
          · rfl
          · exact absurd (hah.1 (hr1.1 hr)) hlt
        clear hr1 hr2 hr3 hr6 hrm hp1 hp2 hp3 hp4 EM ex1 ey1 ex2 ey2 hk1 hk2 F1 F2 ga gb gc e1 e2 e3 la lb h1 h2 h3 HM HA hah
        subst er1 eok eok1 g1 g2 g3 g4 g6
        clear ha hb hn2
        go_wp2_with (first
          | (go_at_call 25; (with_reducible refine (K1.out _ HT.out).mono ?_); rintro e z ⟨rfl, q⟩; have HT := Lib.hid (HT.out.keep q); have f1 := HT.out.f1; have f2 := HT.out.f2)
          | (go_at_call 25; (with_reducible refine (K2.out _ HT.out).mono ?_); rintro e z ⟨rfl, q⟩; have HT := Lib.hid (HT.out.keep q); have f1 := HT.out.f1; have f2 := HT.out.f2)
          | (go_at_call 25; (with_reducible refine (K3.out _ HT.out).mono ?_); rintro e z ⟨rfl, q⟩; have HT := Lib.hid (HT.out.keep q); have f1 := HT.out.f1; have f2 := HT.out.f2)
          | (go_at_call 25; (with_reducible refine (K4.out _ HT.out).mono ?_); rintro e z ⟨rfl, q⟩; have HT := Lib.hid (HT.out.keep q); have f1 := HT.out.f1; have f2 := HT.out.f2)
          | (go_at_call 25; (with_reducible refine (K5.out _ HT.out).mono ?_); rintro e z ⟨rfl, q⟩; have HT := Lib.hid (HT.out.keep q); have f1 := HT.out.f1; have f2 := HT.out.f2)
          | (go_at_call 25; (with_reducible refine (K6.out _ HT.out).mono ?_); rintro e z ⟨rfl, q⟩; have HT := Lib.hid (HT.out.keep q); have f1 := HT.out.f1; have f2 := HT.out.f2)
          | (go_at_call 24; (with_reducible refine (KM.out _ HT.out).mono ?_); rintro e z ⟨rfl, q⟩; have HT := Lib.hid (HT.out.keep q); have f1 := HT.out.f1; have f2 := HT.out.f2)
          | (go_at_call 21; (with_reducible refine (H1.out _ HT.out).mono ?_); rintro e z ⟨rfl, q⟩; have HT := Lib.hid (HT.out.keep q); have f1 := HT.out.f1; have f2 := HT.out.f2)
          | (go_at_call 21; (with_reducible refine (H2.out _ HT.out).mono ?_); rintro e z ⟨rfl, q⟩; have HT := Lib.hid (HT.out.keep q); have f1 := HT.out.f1; have f2 := HT.out.f2)
          | (go_at_call 21; (with_reducible refine (H3.out _ HT.out).mono ?_); rintro e z ⟨rfl, q⟩; have HT := Lib.hid (HT.out.keep q); have f1 := HT.out.f1; have f2 := HT.out.f2)
          | (go_at_call 21; (with_reducible refine (H4.out _ HT.out).mono ?_); rintro e z ⟨rfl, q⟩; have HT := Lib.hid (HT.out.keep q); have f1 := HT.out.f1; have f2 := HT.out.f2)
          | (go_at_call 9; (with_reducible refine (awake_any _).mono ?_); rintro e z ⟨rfl, q⟩; have HT := Lib.hid (HT.out.keep q)))
        go_returns
        exact ⟨rfl, HT.out.bw⟩
end Go.Proofs.Ythjpnnggghfepaa
