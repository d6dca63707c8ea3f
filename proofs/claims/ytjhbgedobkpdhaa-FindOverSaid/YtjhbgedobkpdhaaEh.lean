/- E17, E20 in one. -/
import Derived.Test.YtjhbgedobkpdhaaEg
import Derived.Test.YtjhbgedobkpdhaaL3
namespace Go.Proofs.Ytjhbgedobkpdhaa
set_option linter.unusedVariables false
set_option linter.unusedSimpArgs false
open Go.ChangeShapes Go.WideShapes Go.ChangeAt Go.RowKit
theorem fit_hull {F : Fv} {k : Int} (h : Ex F k) : -1099511627776 ≤ hullA (gr F k) ∧ hullB (gr F k) ≤ 1099511627776 := by
  have n : 0 < (gr F k).length := List.length_pos_iff.2 h.2.2
  have a := h.2.1 (gr F k)[0] (List.getElem_mem _)
  have b := h.2.1 ((gr F k)[(gr F k).length - 1]'(by omega)) (List.getElem_mem _)
  unfold hullA hullB
  rw [List.getD_eq_getElem?_getD, List.getD_eq_getElem?_getD, List.getElem?_eq_getElem n, List.getElem?_eq_getElem (by omega)]
  exact ⟨a.1.1, b.2.2⟩
theorem from_mono {F : Fv} {t u a b : Int} {p : Bool} (h : FromIs F t a p) (k : FromIs F u b true) (tu : t ≤ u) : p = true ∧ a ≤ b := by
  obtain ⟨x, y, z⟩ := k.1 rfl
  cases p with
  | false => exact absurd ((h.2 rfl).2 b x) (by omega)
  | true => exact ⟨rfl, (h.1 rfl).2.2 b x (by omega)⟩
theorem till_mono {F : Fv} {t u c d : Int} {s : Bool} (h : TillIs F t c true) (k : TillIs F u d s) (tu : t ≤ u) : s = true ∧ c ≤ d := by
  obtain ⟨x, y, z⟩ := h.1 rfl
  cases s with
  | false => exact absurd ((k.2 rfl).2 c x) (by omega)
  | true => exact ⟨rfl, (k.1 rfl).2.2 c x (by omega)⟩
theorem from_beyond {F : Fv} {i : Int} {ok : Bool} (h : FromIs F 1099511627777 i ok) : ok = false ∧ i = 0 := by
  cases ok with
  | false => exact ⟨rfl, (h.2 rfl).1⟩
  | true => obtain ⟨x, y, z⟩ := h.1 rfl; have := (fit_hull x).2; omega
theorem till_beyond {F : Fv} {i : Int} {ok : Bool} (h : TillIs F (-1099511627777) i ok) : ok = false ∧ i = 0 := by
  cases ok with
  | false => exact ⟨rfl, (h.2 rfl).1⟩
  | true => obtain ⟨x, y, z⟩ := h.1 rfl; have := (fit_hull x).1; omega
set_option maxRecDepth 8000 in
set_option maxHeartbeats 4000000 in
theorem rises_walk (F : Fv) (t0 u0 : Int) (w : World) (hF : F.At w) (ht1 : -9223372036854775808 ≤ t0) (ht2 : t0 ≤ 9223372036854775807) (hu1 : -9223372036854775808 ≤ u0) (hu2 : u0 ≤ 9223372036854775807) : Calls Try.prog 5 #[F.v, .int .i64 t0, .int .i64 u0] w fun e w' => e = .returned (.bool true) ∧ Below w.heap.size w w' := by
  have HAW := Lib.hid (fun W => awake_any W)
  obtain ⟨r, hr⟩ : ∃ r : Bool, r = true ↔ F.Small ∧ F.Rt := by classical exact ⟨decide _, decide_eq_true_iff⟩
  have HRI := Lib.hid (fun W h => right_any2 F W h r hr)
  have HRT : Hid (r = true → F.Rt ∧ F.Ok ∧ F.cn ≤ 10000) := Lib.hid (fun q => ⟨(hr.1 q).2, (hr.1 q).2.ok (hr.1 q).1, Nat.le_trans (hr.1 q).1.1 (by decide)⟩)
  have HLN : Hid (F.cs.length = F.cn) := Lib.hid hF.core.len
  clear hr
  obtain ⟨t, ht⟩ : ∃ q, min t0 u0 = q := ⟨_, rfl⟩
  obtain ⟨u, hu⟩ : ∃ q, max t0 u0 = q := ⟨_, rfl⟩
  have htu : t ≤ u := by omega
  have HFR : Hid (r = true → ∀ t W, -9223372036854775808 ≤ t → t ≤ 9223372036854775807 → Fv.At F W → Calls Try.prog 14 #[F.v, .int .i64 t] W fun e w' => IbOut (FromIs F t) e ∧ Hid (Below W.heap.size W w')) := Lib.hid (fun q t W t1 t2 h => from_any F t W h (HRT.out q).1 (HRT.out q).2.1 (HRT.out q).2.2 t1 t2)
  have HTI : Hid (r = true → ∀ t W, -9223372036854775808 ≤ t → t ≤ 9223372036854775807 → Fv.At F W → Calls Try.prog 15 #[F.v, .int .i64 t] W fun e w' => IbOut (TillIs F t) e ∧ Hid (Below W.heap.size W w')) := Lib.hid (fun q t W t1 t2 h => till_any F t W h (HRT.out q).1 (HRT.out q).2.1 (HRT.out q).2.2 t1 t2)
  obtain ⟨P, N, co, cn, cc, oo, on, oc, cs, os⟩ := F
  have LC : Hid (cs.length = cn) := Lib.hid hF.core.len
  have LO : Hid (os.length = on) := Lib.hid hF.odd.len
  have hmc : cn ≤ 9223372036854775807 := Nat.le_trans hF.core.le hF.core.top
  have hmo : on ≤ 9223372036854775807 := Nat.le_trans hF.odd.le hF.odd.top
  obtain ⟨b, hb⟩ : ∃ b, w.heap.size = b := ⟨_, rfl⟩
  obtain ⟨wb, hwb⟩ : ∃ wb, w.alloc (.cells #[.int .i64 P, .int .i64 N, .slice co cn cc, .slice oo on oc] 25) = wb := ⟨_, rfl⟩
  have HBB : Hid (Fbox ⟨P, N, co, cn, cc, oo, on, oc, cs, os⟩ w wb b) := Lib.hid (by rw [← hwb, ← hb]; exact fbox_new hF)
  clear hF
  show Calls Try.prog 5 #[.agg #[.int .i64 P, .int .i64 N, .slice co cn cc, .slice oo on oc], .int .i64 t0, .int .i64 u0] w _
  go_enter Try.func5, Try.ntmps5
  go_upto_region 1 with fail
  clear hwb hb
  have e0 : wb.cell? ⟨b, 0, none⟩ = some (.int .i64 P) := HBB.out.c0
  have e1 : wb.cell? ⟨b, 1, none⟩ = some (.int .i64 N) := HBB.out.c1
  have e2 : wb.cell? ⟨b, 2, none⟩ = some (.slice co cn cc) := HBB.out.c2
  have e3 : wb.cell? ⟨b, 3, none⟩ = some (.slice oo on oc) := HBB.out.c3
  have HRI : Hid (∀ W, Fv.At ⟨P, N, co, cn, cc, oo, on, oc, cs, os⟩ W → Calls Try.prog 8 #[.agg #[.int .i64 P, .int .i64 N, .slice co cn cc, .slice oo on oc]] W fun e w' => e = .returned (.bool r) ∧ Below W.heap.size W w') := HRI
  have HRT : Hid (r = true → Fv.Rt ⟨P, N, co, cn, cc, oo, on, oc, cs, os⟩ ∧ Fv.Ok ⟨P, N, co, cn, cc, oo, on, oc, cs, os⟩ ∧ cn ≤ 10000) := HRT
  have HLN : Hid ((Fv.cs ⟨P, N, co, cn, cc, oo, on, oc, cs, os⟩).length = Fv.cn ⟨P, N, co, cn, cc, oo, on, oc, cs, os⟩) := HLN
  have HFR : Hid (r = true → ∀ t W, -9223372036854775808 ≤ t → t ≤ 9223372036854775807 → Fv.At ⟨P, N, co, cn, cc, oo, on, oc, cs, os⟩ W → Calls Try.prog 14 #[.agg #[.int .i64 P, .int .i64 N, .slice co cn cc, .slice oo on oc], .int .i64 t] W fun e w' => IbOut (FromIs ⟨P, N, co, cn, cc, oo, on, oc, cs, os⟩ t) e ∧ Hid (Below W.heap.size W w')) := HFR
  have HTI : Hid (r = true → ∀ t W, -9223372036854775808 ≤ t → t ≤ 9223372036854775807 → Fv.At ⟨P, N, co, cn, cc, oo, on, oc, cs, os⟩ W → Calls Try.prog 15 #[.agg #[.int .i64 P, .int .i64 N, .slice co cn cc, .slice oo on oc], .int .i64 t] W fun e w' => IbOut (TillIs ⟨P, N, co, cn, cc, oo, on, oc, cs, os⟩ t) e ∧ Hid (Below W.heap.size W w')) := HTI
  go_wp2_with fail
  (with_reducible refine (HRI.out _ HBB.out.at_).mono ?_)
  rintro e w2 ⟨rfl, q⟩
  have HBB := Lib.hid (HBB.out.keep q)
  clear q e0 e1 e2 e3 HRI
  cases r
  · clear HRT
    go_wp2_with fail
    (with_reducible refine (HAW.out _).mono ?_)
    rintro e w9 ⟨rfl, q⟩
    have HBB := Lib.hid (HBB.out.keep q)
    clear q
    go_wp2
    go_returns
    exact ⟨rfl, HBB.out.bw⟩
  · have HRT := Lib.hid (HRT.out rfl)
    have e0 : w2.cell? ⟨b, 0, none⟩ = some (.int .i64 P) := HBB.out.c0
    have e1 : w2.cell? ⟨b, 1, none⟩ = some (.int .i64 N) := HBB.out.c1
    have e2 : w2.cell? ⟨b, 2, none⟩ = some (.slice co cn cc) := HBB.out.c2
    have e3 : w2.cell? ⟨b, 3, none⟩ = some (.slice oo on oc) := HBB.out.c3
    go_wp2_with fail
    (with_reducible refine (HFR.out (by first | rfl | trivial) (t) _ (by omega) (by omega) HBB.out.at_).mono ?_)
    rintro e w3 ⟨⟨a, p1, rfl, ha⟩, q⟩
    have HBB := Lib.hid (HBB.out.keep q.out)
    have Hha := Lib.hid ha
    clear q ha e0 e1 e2 e3
    have e0 : w3.cell? ⟨b, 0, none⟩ = some (.int .i64 P) := HBB.out.c0
    have e1 : w3.cell? ⟨b, 1, none⟩ = some (.int .i64 N) := HBB.out.c1
    have e2 : w3.cell? ⟨b, 2, none⟩ = some (.slice co cn cc) := HBB.out.c2
    have e3 : w3.cell? ⟨b, 3, none⟩ = some (.slice oo on oc) := HBB.out.c3
    go_wp2_with fail
    (with_reducible refine (HFR.out (by first | rfl | trivial) (u) _ (by omega) (by omega) HBB.out.at_).mono ?_)
    rintro e w4 ⟨⟨b', q1, rfl, hb⟩, q⟩
    have HBB := Lib.hid (HBB.out.keep q.out)
    have Hhb := Lib.hid hb
    clear q hb e0 e1 e2 e3
    have e0 : w4.cell? ⟨b, 0, none⟩ = some (.int .i64 P) := HBB.out.c0
    have e1 : w4.cell? ⟨b, 1, none⟩ = some (.int .i64 N) := HBB.out.c1
    have e2 : w4.cell? ⟨b, 2, none⟩ = some (.slice co cn cc) := HBB.out.c2
    have e3 : w4.cell? ⟨b, 3, none⟩ = some (.slice oo on oc) := HBB.out.c3
    go_wp2_with fail
    (with_reducible refine (HTI.out (by first | rfl | trivial) (t) _ (by omega) (by omega) HBB.out.at_).mono ?_)
    rintro e w5 ⟨⟨c, r1, rfl, hc⟩, q⟩
    have HBB := Lib.hid (HBB.out.keep q.out)
    have Hhc := Lib.hid hc
    clear q hc e0 e1 e2 e3
    have e0 : w5.cell? ⟨b, 0, none⟩ = some (.int .i64 P) := HBB.out.c0
    have e1 : w5.cell? ⟨b, 1, none⟩ = some (.int .i64 N) := HBB.out.c1
    have e2 : w5.cell? ⟨b, 2, none⟩ = some (.slice co cn cc) := HBB.out.c2
    have e3 : w5.cell? ⟨b, 3, none⟩ = some (.slice oo on oc) := HBB.out.c3
    go_wp2_with fail
    (with_reducible refine (HTI.out (by first | rfl | trivial) (u) _ (by omega) (by omega) HBB.out.at_).mono ?_)
    rintro e w6 ⟨⟨d, s1, rfl, hd⟩, q⟩
    have HBB := Lib.hid (HBB.out.keep q.out)
    have Hhd := Lib.hid hd
    clear q hd e0 e1 e2 e3
    have HQ : Hid (q1 = true → p1 = true ∧ a ≤ b') := Lib.hid (fun z => by subst z; exact from_mono Hha.out Hhb.out htu)
    have HR : Hid (r1 = true → s1 = true ∧ c ≤ d) := Lib.hid (fun z => by subst z; exact till_mono Hhc.out Hhd.out htu)
    clear Hha Hhb Hhc Hhd
    go_upto_region 8 with fail
    go_cut [74] from 53 to 74 (fun s74 wx => s74 = .bool false ∧ wx = w6)
    case first =>
      have key : ∀ (X : Prop), (q1 = false → r1 = false → X) → (q1 = false → r1 = true → s1 = true → decide (d < c) = false → X) → (q1 = true → p1 = true → decide (b' < a) = false → r1 = false → X) → (q1 = true → p1 = true → decide (b' < a) = false → r1 = true → s1 = true → decide (d < c) = false → X) → X := by
        intro X x1 x2 x3 x4
        cases q1 <;> cases r1
        · exact x1 rfl rfl
        · obtain ⟨h1, h2⟩ := HR.out rfl
          exact x2 rfl rfl h1 (by simp; omega)
        · obtain ⟨h1, h2⟩ := HQ.out rfl
          exact x3 rfl h1 (by simp; omega) rfl
        · obtain ⟨h1, h2⟩ := HR.out rfl
          obtain ⟨h3, h4⟩ := HQ.out rfl
          exact x4 rfl h3 (by simp; omega) rfl h1 (by simp; omega)
      refine key _ ?_ ?_ ?_ ?_
      · intro h1 h2
        subst h1 h2
        clear key HQ HR
        go_wp2
        go_meet
        case rel => exact ⟨rfl, rfl⟩
      · intro h1 h2 h3 h4
        subst h1 h2 h3
        clear key HQ HR
        go_wp2
        go_meet
        case rel => exact ⟨rfl, rfl⟩
      · intro h1 h2 h3 h4
        subst h1 h2 h4
        clear key HQ HR
        go_wp2
        go_meet
        case rel => exact ⟨rfl, rfl⟩
      · intro h1 h2 h3 h4 h5 h6
        subst h1 h2 h4 h5
        clear key HQ HR
        go_wp2
        go_meet
        case rel => exact ⟨rfl, rfl⟩
    case rest =>
      obtain ⟨rfl, rfl⟩ := hcut
      have e0 : wc.cell? ⟨b, 0, none⟩ = some (.int .i64 P) := HBB.out.c0
      have e1 : wc.cell? ⟨b, 1, none⟩ = some (.int .i64 N) := HBB.out.c1
      have e2 : wc.cell? ⟨b, 2, none⟩ = some (.slice co cn cc) := HBB.out.c2
      have e3 : wc.cell? ⟨b, 3, none⟩ = some (.slice oo on oc) := HBB.out.c3
      go_wp2_with fail
      (with_reducible refine (HFR.out (by first | rfl | trivial) (1099511627777) _ (by decide) (by decide) HBB.out.at_).mono ?_)
      rintro e w7 ⟨⟨i7, k7, rfl, h7⟩, q⟩
      have HBB := Lib.hid (HBB.out.keep q.out)
      have Hh7 := Lib.hid h7
      clear q h7 e0 e1 e2 e3
      obtain ⟨rfl, rfl⟩ := from_beyond Hh7.out
      have e0 : w7.cell? ⟨b, 0, none⟩ = some (.int .i64 P) := HBB.out.c0
      have e1 : w7.cell? ⟨b, 1, none⟩ = some (.int .i64 N) := HBB.out.c1
      have e2 : w7.cell? ⟨b, 2, none⟩ = some (.slice co cn cc) := HBB.out.c2
      have e3 : w7.cell? ⟨b, 3, none⟩ = some (.slice oo on oc) := HBB.out.c3
      go_wp2_with fail
      (with_reducible refine (HTI.out (by first | rfl | trivial) ((-1099511627777)) _ (by decide) (by decide) HBB.out.at_).mono ?_)
      rintro e w8 ⟨⟨i8, k8, rfl, h8⟩, q⟩
      have HBB := Lib.hid (HBB.out.keep q.out)
      have Hh8 := Lib.hid h8
      clear q h8 e0 e1 e2 e3
      obtain ⟨rfl, rfl⟩ := till_beyond Hh8.out
      go_wp2_with fail
      (with_reducible refine (HAW.out _).mono ?_)
      rintro e w9 ⟨rfl, q⟩
      have HBB := Lib.hid (HBB.out.keep q)
      clear q
      go_wp2
      go_returns
      exact ⟨rfl, HBB.out.bw⟩
theorem into_pos {x n : Int} (hn : 1 ≤ n) : 0 < x.tmod n + n ∧ x.tmod n + n < 2 * n := by
  have r1 : (x.tmod n).natAbs < n.natAbs := by rw [Int.natAbs_tmod]; exact Nat.mod_lt _ (by omega)
  omega
set_option maxHeartbeats 1000000 in
theorem into_any (x n : Int) (w : World) (h1 : 1 ≤ n) (h2 : n ≤ 1000000) : Calls Try.prog 11 #[.int .i64 x, .int .i64 n] w fun e w' => ∃ d : Nat, e = .returned (.int .i64 d) ∧ (d : Int) < n ∧ w' = w := by
  have t1 : decide (n < 1) = false := by simp; omega
  have t2 : ¬ n = 0 := by omega
  have t3 : ¬ n = -1 := by omega
  have HP := Lib.hid (into_pos (x := x) h1)
  have t4 : (n == 0) = false := by simp; omega
  obtain ⟨y, hy⟩ : ∃ y, x.tmod n = y := ⟨_, rfl⟩
  rw [hy] at HP
  have hy1 : -9223372036854775808 ≤ y + n := by have := HP.out; omega
  have hy2 : y + n ≤ 9223372036854775807 := by have := HP.out; omega
  obtain ⟨z, hz⟩ : ∃ z, (y + n).tmod n = z := ⟨_, rfl⟩
  have HZ : Hid (0 ≤ z ∧ z < n) := Lib.hid (by
    rw [← hz]
    exact ⟨Int.tmod_nonneg _ (by have := HP.out; omega), Int.tmod_lt_of_pos _ (by omega)⟩)
  go_enter Try.func11, Try.ntmps11
  go_wp2
  go_returns
  obtain ⟨d, rfl⟩ := Int.eq_ofNat_of_zero_le HZ.out.1
  exact ⟨d, rfl, HZ.out.2, rfl⟩
theorem at_yes2 {F : Fv} (rt : F.Rt) (ok : F.Ok) (hl : F.cs.length = F.cn) {x i j : Int} {b : Bool} (e : Ex F i) (m : mem (gr F i) x) (h : AtIs F x j b) : j = i ∧ b = true := by
  cases b with
  | true =>
    obtain ⟨p, q⟩ := h.1 rfl
    have a := gr_mem_hull ok e m
    have c := gr_mem_hull ok p q
    rcases Int.lt_trichotomy j i with z | z | z
    · have := ex_order rt ok hl p.1 e.1 z p.2.2 e.2.2; omega
    · exact ⟨z, rfl⟩
    · have := ex_order rt ok hl e.1 p.1 z e.2.2 p.2.2; omega
  | false => exact absurd m ((h.2 rfl).2 i e)
theorem from_yes2 {F : Fv} (rt : F.Rt) (ok : F.Ok) (hl : F.cs.length = F.cn) {x i j : Int} {b : Bool} (e : Ex F i) (m : mem (gr F i) x) (h : FromIs F x j b) : j = i ∧ b = true := from_yes h e (gr_mem_hull ok e m).2 (fun k p q => by
  have a := gr_mem_hull ok e m
  rcases Int.lt_or_le k i with z | z
  · have := ex_order rt ok hl p.1 e.1 z p.2.2 e.2.2; omega
  · exact z)
theorem till_yes2 {F : Fv} (rt : F.Rt) (ok : F.Ok) (hl : F.cs.length = F.cn) {x i j : Int} {b : Bool} (e : Ex F i) (m : mem (gr F i) x) (h : TillIs F x j b) : j = i ∧ b = true := till_yes h e (gr_mem_hull ok e m).1 (fun k p q => by
  have a := gr_mem_hull ok e m
  rcases Int.lt_or_le i k with z | z
  · have := ex_order rt ok hl e.1 p.1 z e.2.2 p.2.2; omega
  · exact z)
theorem at_cell {L : List Sp} (g : Good L) {d : Nat} (h : d < L.length) {x : Int} (h1 : L[d].1 ≤ x) (h2 : x ≤ L[d].2) : mem L x := ⟨L[d], List.getElem_mem h, h1, h2⟩
end Go.Proofs.Ytjhbgedobkpdhaa
