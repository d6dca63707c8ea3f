/- M25, M26 in one. -/
import Derived.Test.YtkhnoikdfelheaaY4
import Derived.Deep.CutRange
namespace Go.Proofs.Ytkhnoikdfelheaa
set_option linter.unusedVariables false
set_option linter.unusedSimpArgs false
open Go.ChangeShapes Go.WideShapes Go.ChangeAt Go.RowKit
/-- The last span of a set of the call's own, one tick less. -/
structure Dec (w : World) (B m c : Nat) (ao : Option Addr) (L : List Sp) (g : Nat) (a b : Int) : Prop where
  ao : ao = some ⟨g, 0, none⟩
  lo : B ≤ g
  hi : g < w.heap.size
  at_ : ∃ h : m < L.length, L[m]'h = (a, b)
  c0 : w.cell? ⟨g, m * 2, none⟩ = some (.int .i64 a)
  c1 : w.cell? ⟨g, m * 2 + 1, none⟩ = some (.int .i64 b)
  fr : w.frozen? ⟨g, m * 2 + 1, none⟩ = false
  le : m + 1 ≤ c
  top : c ≤ 9223372036854775807
  d0 : ∀ z : Int, (w.setCell ⟨g, m * 2 + 1, none⟩ (.int .i64 z)).cell? ⟨g, m * 2, none⟩ = some (.int .i64 a)
  d1 : ∀ z : Int, (w.setCell ⟨g, m * 2 + 1, none⟩ (.int .i64 z)).cell? ⟨g, m * 2 + 1, none⟩ = some (.int .i64 z)
  s1 : ∀ z : Int, SpAt (w.setCell ⟨g, m * 2 + 1, none⟩ (.int .i64 z)) (some ⟨g, 0, none⟩) (m + 1) c (L.take m ++ [(a, z)])
  s2 : ∀ z : Int, SpAt (w.setCell ⟨g, m * 2 + 1, none⟩ (.int .i64 z)) (some ⟨g, 0, none⟩) m c (L.take m)
theorem dec_row {w : World} {B m c : Nat} {ao : Option Addr} {L : List Sp} (h : w.ownsRow B 46 2 (.slice ao (m + 1) c) (m + 1) (spCells L)) (hl : L.length = m + 1) : ∃ (g : Nat) (a b : Int), Dec w B m c ao L g a b := by
  rcases h.2 with ⟨h0, h1⟩ | ⟨g, cap, cur, hv, h2, h3, h4, h5, h6, h7⟩
  · cases h1
  · cases hv
    have hm : m < L.length := by omega
    have rd : ∀ j, j < (m + 1) * 2 → cur[j]? = (spCells L)[j]? := fun j hj => by
      have e := congrArg (fun q => q[j]?) h7
      simp only [List.getElem?_take] at e
      rw [if_pos hj] at e
      rw [← Array.getElem?_toList]; exact e
    have sz : m * 2 + 1 < cur.size := by
      have := rd (m * 2 + 1) (by omega)
      rw [(spCells_at L m hm).2] at this
      exact (Array.getElem?_eq_some_iff.1 this).1
    have cl : ∀ k, w.cell? ⟨g, k, none⟩ = cur[k]? := fun k => cell_block h3 k
    have cz : ∀ (z : Int) k, (w.setCell ⟨g, m * 2 + 1, none⟩ (.int .i64 z)).cell? ⟨g, k, none⟩ = if m * 2 + 1 = k then some (.int .i64 z) else cur[k]? := fun z k => by
      rw [cell_block (set_block h3 (m * 2 + 1) (.int .i64 z)) k, Array.getElem?_setIfInBounds]
      by_cases q : m * 2 + 1 = k
      · subst q; simp [sz]
      · rw [if_neg q, if_neg q]
    refine ⟨g, L[m].1, L[m].2, rfl, h2, (Array.getElem?_eq_some_iff.1 h3).1, ⟨hm, rfl⟩, ?_, ?_, free_in h3 _, h4, by unfold maxLen at h5; omega, fun z => ?_, fun z => ?_, fun z => ?_, fun z => ?_⟩
    · rw [cl, rd _ (by omega)]; exact (spCells_at L m hm).1
    · rw [cl, rd _ (by omega)]; exact (spCells_at L m hm).2
    · rw [cz, if_neg (by omega), rd _ (by omega)]; exact (spCells_at L m hm).1
    · rw [cz, if_pos rfl]
    · refine ⟨by simp; omega, h4, by unfold maxLen at h5; omega, (fun e => by cases e), fun _ => ⟨g, 0, rfl, fun i hi => ?_⟩⟩
      rw [Nat.zero_add]
      have hi2 : i ≤ m := by simp at hi; omega
      rcases Nat.lt_or_ge i m with q | q
      · have e : (L.take m ++ [(L[m].1, z)])[i] = L[i]'(by omega) := by rw [List.getElem_append_left (by simp; omega), List.getElem_take]
        rw [e, cz, cz, if_neg (by omega), if_neg (by omega), rd _ (by omega), rd _ (by omega)]
        exact spCells_at L i (by omega)
      · obtain rfl : i = m := by omega
        have e : (L.take i ++ [(L[i].1, z)])[i] = (L[i].1, z) := by rw [List.getElem_append_right (by simp; omega)]; simp [Nat.min_eq_left (Nat.le_of_lt hm)]
        rw [e, cz, cz, if_neg (by omega), if_pos rfl, rd _ (by omega)]
        exact ⟨(spCells_at L i hm).1, rfl⟩
    · refine ⟨by simp; omega, by omega, by unfold maxLen at h5; omega, (fun e => by cases e), fun _ => ⟨g, 0, rfl, fun i hi => ?_⟩⟩
      rw [Nat.zero_add]
      have hi2 : i < m := by simp at hi; omega
      have e : (L.take m)[i] = L[i]'(by omega) := by rw [List.getElem_take]
      rw [e, cz, cz, if_neg (by omega), if_neg (by omega), rd _ (by omega), rd _ (by omega)]
      exact spCells_at L i (by omega)
/-- One tick less is another set. -/
theorem dec_ne {L : List Sp} {m : Nat} {a b : Int} (h : ∃ h : m < L.length, L[m]'h = (a, b)) (hl : L.length = m + 1) : L.take m ++ [(a, b - 1)] ≠ L ∧ L.take m ≠ L := by
  obtain ⟨h, e⟩ := h
  constructor
  · intro z
    have h2 : m < (L.take m ++ [(a, b - 1)]).length := by simp; omega
    have q : (L.take m ++ [(a, b - 1)])[m]'h2 = (a, b - 1) := by rw [List.getElem_append_right (by simp; omega)]; simp [Nat.min_eq_left (Nat.le_of_lt h)]
    have : L[m] = (a, b - 1) := by rw [← q]; congr 1; exact z.symm
    rw [e] at this
    have := congrArg Prod.snd this
    simp at this
    omega
  · intro z
    have := congrArg List.length z
    simp at this
    omega
/-- Get, its answer in a row of its own. -/
theorem get_row (F : Fv) (x : Int) (W : World) (h : F.At W) (ok : F.Ok) : Calls Try.prog 16 #[F.v, .int .i64 x] W fun e w' => ∃ (ao : Option Addr) (n c : Nat) (k : Int), e = .returned (.tuple #[.slice ao n c, .int .i64 k]) ∧ Hid (Below W.heap.size W w') ∧ ((k = 0 ∧ Hid ((gr F x).length = n ∧ Fit (gr F x) ∧ w'.ownsRow W.heap.size 46 2 (.slice ao n c) n (spCells (gr F x)))) ∨ k = 20) := by
  refine (get_any F x W h ok).mono ?_
  rintro e w' ⟨v, k, rfl, q, hv⟩
  rcases hv.out with ⟨h1, rfl, h3⟩ | ⟨h1, rfl, rfl⟩
  · obtain ⟨ao, c, rfl, z⟩ := own_sp rfl h3
    exact ⟨ao, _, c, 0, rfl, Lib.hid q, .inl ⟨rfl, Lib.hid ⟨rfl, h1.2, h3⟩⟩⟩
  · exact ⟨none, 0, 0, 20, rfl, Lib.hid q, .inr rfl⟩
theorem canEq_weeks {G : Fv} (co : Option Addr) (cc : Nat) (oo : Option Addr) (oc : Nat) (h : CanEq G (weeksF 7 [] none 0 none 0)) : CanEq G (weeksF 7 [] co cc oo oc) := fun A B cA cB => h A B cA ⟨cB.turn, cB.N, cB.P, cB.cs, cB.os⟩
theorem canEq_weeks' {G : Fv} (co : Option Addr) (cc : Nat) (oo : Option Addr) (oc : Nat) (h : CanEq G (weeksF 7 [] co cc oo oc)) : CanEq G (weeksF 7 [] none 0 none 0) := fun A B cA cB => h A B cA ⟨cB.turn, cB.N, cB.P, cB.cs, cB.os⟩
theorem PutU.finT {os : List Gr} {a : Int} {L : List Sp} {j : Nat} {T : List Gr} (h : PutU os a L j true T) : PutU os a L (j + 1) true T := h.skip
theorem PutU.short {os : List Gr} {a : Int} {L : List Sp} {j : Nat} {p : Bool} {T : List Gr} {m : Nat} (h : PutU os a L j p T) (h1 : ∀ o ∈ os, o.2.length ≤ m) (h2 : L.length ≤ m) : ∀ o ∈ T, o.2.length ≤ m := fun o ho => by
  rcases h.new o ho with q | q
  · exact h1 o q
  · rw [q]; exact h2
theorem anew_of (F : Fv) (W : World) (h : F.At W) (s : F.Small) : Calls Try.prog 10 #[F.v] W fun e w' => ∃ (c2 : Option Addr) (k2 : Nat) (o2 : Option Addr) (j2 : Nat), e = .returned (.agg #[.int .i64 F.P, .int .i64 F.N, .slice c2 F.cn k2, .slice o2 F.on j2]) ∧ Hid (Fv.At ⟨F.P, F.N, c2, F.cn, k2, o2, F.on, j2, F.cs, F.os⟩ w') ∧ Hid (Below W.heap.size W w') := by
  have ss := small_short s
  refine (anewForm_any F W h (Nat.le_trans s.1 (by decide)) (Nat.le_trans s.2.1 (by decide)) (fun l hl => Nat.le_trans (ss.1 l hl) (by decide)) (fun o ho => Nat.le_trans (ss.2 o ho) (by decide))).mono ?_
  rintro e w' ⟨vc, vo, rfl, hc, q⟩
  obtain ⟨a1, c1, rfl, x1⟩ := hc.out.1.vs
  obtain ⟨a2, c2, rfl, x2⟩ := hc.out.2.vs
  exact ⟨a1, c1, a2, c2, rfl, Lib.hid ⟨h.p1, h.p2, h.n1, h.n2, x1, x2, h.short⟩, q⟩
theorem weeks_at (W : World) : Calls Try.prog 22 #[] W fun e w' => ∃ co cc, e = .returned (.agg #[.int .i64 7, .int .i64 1, .slice co 1 cc, .slice none 0 0]) ∧ Hid (Fv.At (weeksF 7 [] co cc none 0) w') ∧ Below W.heap.size W w' := by
  refine (weeks_any W).mono ?_
  rintro e w' ⟨co, cc, rfl, hc, q⟩
  exact ⟨co, cc, rfl, Lib.hid (fv_mk ⟨by decide, by decide⟩ hc.out (od_none _) (by intro l hl; simp at hl; subst hl; decide) (by intro o ho; cases ho)), q⟩
set_option maxRecDepth 8000 in
set_option maxHeartbeats 8000000 in
theorem canonUnlike_walk (F : Fv) (y : Int) (w : World) (hF : F.At w) (hy1 : -128 ≤ y) (hy2 : y ≤ 127) :
    Calls Try.prog 7 #[F.v, .int .i8 y] w fun e w' => e = .returned (.bool true) ∧ Below w.heap.size w w' := by
  have HAW := Lib.hid (fun W => awake_any W)
  obtain ⟨P1, N1, co1, cn1, cc1, oo1, on1, oc1, cs1, os1⟩ := F
  obtain ⟨b, hb⟩ : ∃ b, w.heap.size = b := ⟨_, rfl⟩
  obtain ⟨wb, hwb⟩ : ∃ wb, w.alloc (.cells #[.int .i64 P1, .int .i64 N1, .slice co1 cn1 cc1, .slice oo1 on1 oc1] 25) = wb := ⟨_, rfl⟩
  have KW : Below w.heap.size w wb := by rw [← hwb]; exact (Below.refl _ w).alloc (Nat.le_refl _) _
  have B1 : wb.heap[b]? = some (.cells #[.int .i64 P1, .int .i64 N1, .slice co1 cn1 cc1, .slice oo1 on1 oc1] 25) := by rw [← hwb, ← hb, new_al]
  have HX : Hid (Fbox ⟨P1, N1, co1, cn1, cc1, oo1, on1, oc1, cs1, os1⟩ w wb b) := Lib.hid (fbox_at (hF.keep KW) B1 KW)
  have LC1 : Hid (cs1.length = cn1) := Lib.hid hF.core.len
  have LO1 : Hid (os1.length = on1) := Lib.hid hF.odd.len
  have HP1 : -9223372036854775808 ≤ P1 := hF.p1
  have HP2 : P1 ≤ 9223372036854775807 := hF.p2
  have hmo1 : on1 ≤ 9223372036854775807 := Nat.le_trans hF.odd.le hF.odd.top
  have HF := Lib.hid hF
  have HBE := Lib.hid hb
  have HBB : Hid (wb.heap[b]? = some (.cells #[.int .i64 P1, .int .i64 N1, .slice co1 cn1 cc1, .slice oo1 on1 oc1] 25)) := Lib.hid B1
  clear hF KW B1
  obtain ⟨rF, hrF⟩ : ∃ r : Bool, r = true ↔ Fv.Small ⟨P1, N1, co1, cn1, cc1, oo1, on1, oc1, cs1, os1⟩ ∧ Fv.Rt ⟨P1, N1, co1, cn1, cc1, oo1, on1, oc1, cs1, os1⟩ := by classical exact ⟨decide _, decide_eq_true_iff⟩
  have HRF := Lib.hid hrF
  have C1 : Hid (∀ W, Fv.At ⟨P1, N1, co1, cn1, cc1, oo1, on1, oc1, cs1, os1⟩ W → Calls Try.prog 8 #[.agg #[.int .i64 P1, .int .i64 N1, .slice co1 cn1 cc1, .slice oo1 on1 oc1]] W fun e w' => e = .returned (.bool rF) ∧ Below W.heap.size W w') := Lib.hid (fun W h => right_any2 ⟨P1, N1, co1, cn1, cc1, oo1, on1, oc1, cs1, os1⟩ W h rF hrF)
  clear hrF
  show Calls Try.prog 7 #[.agg #[.int .i64 P1, .int .i64 N1, .slice co1 cn1 cc1, .slice oo1 on1 oc1], .int .i8 y] w _
  go_enter Try.func7, Try.ntmps7
  go_upto_region 1 with fail
  clear hwb hb
  have a0 : wb.cell? ⟨b, 0, none⟩ = some (.int .i64 P1) := (HX.out).c0
  have a1 : wb.cell? ⟨b, 1, none⟩ = some (.int .i64 N1) := (HX.out).c1
  have a2 : wb.cell? ⟨b, 2, none⟩ = some (.slice co1 cn1 cc1) := (HX.out).c2
  have a3 : wb.cell? ⟨b, 3, none⟩ = some (.slice oo1 on1 oc1) := (HX.out).c3
  go_wp2_with fail
  (with_reducible refine (C1.out _ HX.out.at_).mono ?_)
  rintro e v0 ⟨rfl, q⟩
  have HX := Lib.hid (HX.out.keep q)
  have HBB := Lib.hid ((q.block b (Array.getElem?_eq_some_iff.1 HBB.out).1).trans HBB.out)
  clear a0 a1 a2 a3 q C1
  cases rF
  · skip
    go_wp2_with fail
    (with_reducible refine (HAW.out _).mono ?_)
    rintro e wz ⟨rfl, qz⟩
    have HZ := Lib.hid (HX.out.bw.trans (qz.mono HX.out.bw.size))
    clear qz
    go_wp2
    go_returns
    exact ⟨rfl, HZ.out⟩
  · have HSR1 := Lib.hid (HRF.out.1 (by first | rfl | trivial))
    clear HRF
    have GT : Hid (∀ W, Fv.At ⟨P1, N1, co1, cn1, cc1, oo1, on1, oc1, cs1, os1⟩ W → Calls Try.prog 16 #[.agg #[.int .i64 P1, .int .i64 N1, .slice co1 cn1 cc1, .slice oo1 on1 oc1], .int .i64 y] W fun e w' => ∃ (ao : Option Addr) (n c : Nat) (k : Int), e = .returned (.tuple #[.slice ao n c, .int .i64 k]) ∧ Hid (Below W.heap.size W w') ∧ ((k = 0 ∧ Hid ((gr ⟨P1, N1, co1, cn1, cc1, oo1, on1, oc1, cs1, os1⟩ y).length = n ∧ Fit (gr ⟨P1, N1, co1, cn1, cc1, oo1, on1, oc1, cs1, os1⟩ y) ∧ w'.ownsRow W.heap.size 46 2 (.slice ao n c) n (spCells (gr ⟨P1, N1, co1, cn1, cc1, oo1, on1, oc1, cs1, os1⟩ y)))) ∨ k = 20)) := Lib.hid (fun W h => get_row ⟨P1, N1, co1, cn1, cc1, oo1, on1, oc1, cs1, os1⟩ y W h (HSR1.out.2.ok HSR1.out.1))
    have a0 : v0.cell? ⟨b, 0, none⟩ = some (.int .i64 P1) := (HX.out).c0
    have a1 : v0.cell? ⟨b, 1, none⟩ = some (.int .i64 N1) := (HX.out).c1
    have a2 : v0.cell? ⟨b, 2, none⟩ = some (.slice co1 cn1 cc1) := (HX.out).c2
    have a3 : v0.cell? ⟨b, 3, none⟩ = some (.slice oo1 on1 oc1) := (HX.out).c3
    go_wp2_with fail
    (with_reducible refine (GT.out _ HX.out.at_).mono ?_)
    rintro e v4 ⟨ao, n, c, k, rfl, q, dk⟩
    have HLO4 := Lib.hid HX.out.bw.size
    have HBV := Lib.hid (Array.getElem?_eq_some_iff.1 HBB.out).1
    have HX0 := HX
    have HQ4 := q
    have HX := Lib.hid (HX.out.keep q.out)
    have HBB0 := HBB
    have HBB := Lib.hid ((q.out.block b (Array.getElem?_eq_some_iff.1 HBB.out).1).trans HBB.out)
    clear a0 a1 a2 a3 q GT
    have a0 : v4.cell? ⟨b, 0, none⟩ = some (.int .i64 P1) := (HX.out).c0
    have a1 : v4.cell? ⟨b, 1, none⟩ = some (.int .i64 N1) := (HX.out).c1
    have a2 : v4.cell? ⟨b, 2, none⟩ = some (.slice co1 cn1 cc1) := (HX.out).c2
    have a3 : v4.cell? ⟨b, 3, none⟩ = some (.slice oo1 on1 oc1) := (HX.out).c3
    rcases dk with ⟨rfl, hrow⟩ | rfl
    rotate_left 1
    · skip
      go_wp2_with fail
      (with_reducible refine (HAW.out _).mono ?_)
      rintro e wz ⟨rfl, qz⟩
      have HZ := Lib.hid (HX.out.bw.trans (qz.mono HX.out.bw.size))
      clear qz
      go_wp2
      go_returns
      exact ⟨rfl, HZ.out⟩
    by_cases n0 : n = 0
    · subst n0
      go_wp2_with fail
      (with_reducible refine (HAW.out _).mono ?_)
      rintro e wz ⟨rfl, qz⟩
      have HZ := Lib.hid (HX.out.bw.trans (qz.mono HX.out.bw.size))
      clear qz
      go_wp2
      go_returns
      exact ⟨rfl, HZ.out⟩
    by_cases o8 : on1 = 8
    · have t35 : ((on1 : Int) == 8) = true := by simp; omega
      have t29 : ((n : Int) == 0) = false := by simp; omega
      go_wp2_with fail
      (with_reducible refine (HAW.out _).mono ?_)
      rintro e wz ⟨rfl, qz⟩
      have HZ := Lib.hid (HX.out.bw.trans (qz.mono HX.out.bw.size))
      clear qz
      go_wp2
      go_returns
      exact ⟨rfl, HZ.out⟩
    · have t35 : ((on1 : Int) == 8) = false := by simp; omega
      obtain ⟨m, hm⟩ : ∃ m, n = m + 1 := ⟨n - 1, by omega⟩
      have t29 : ((n : Int) == 0) = false := by simp; omega
      have hn1 : (n : Int) - 1 = (m : Int) := by omega
      have HNM := Lib.hid hm
      obtain ⟨L, hL⟩ : ∃ L, gr ⟨P1, N1, co1, cn1, cc1, oo1, on1, oc1, cs1, os1⟩ y = L := ⟨_, rfl⟩
      have HLE := Lib.hid hL
      rw [hL, hm] at hrow
      obtain ⟨g, a, bb, hd⟩ := dec_row hrow.out.2.2 hrow.out.1
      have HD := Lib.hid hd
      have HLN := Lib.hid hrow.out.1
      have hao := hd.ao
      subst hao
      have hm1 : m + 1 ≤ c := hd.le
      have hm2 : c ≤ 9223372036854775807 := hd.top
      have hf : (-1099511627776 ≤ a ∧ a ≤ 1099511627776) ∧ -1099511627776 ≤ bb ∧ bb ≤ 1099511627776 := by
        obtain ⟨h, e⟩ := hd.at_
        have := hrow.out.2.1 _ (List.getElem_mem h)
        rw [e] at this
        exact this
      obtain ⟨⟨hf1, hf2⟩, hf3, hf4⟩ := hf
      have zz0 := hd.c0
      have zz1 := hd.c1
      have zf := hd.fr
      have m0 : (0 : Int) ≤ (m : Int) := by omega
      have m3 : (m : Int) < (n : Int) := by omega
      have hnc : n ≤ c := by omega
      clear hL hrow n0 o8 hm
      go_upto_region 8 with fail
      have K5 : Below v0.heap.size v0 (v4.setCell ⟨g, m * 2 + 1, none⟩ (.int .i64 (bb - 1))) := HQ4.out.setCell (p := ⟨g, m * 2 + 1, none⟩) hd.lo _
      have y0 := hd.d0 (bb - 1)
      have y1 := hd.d1 (bb - 1)
      have HS1 := Lib.hid (hd.s1 (bb - 1))
      have HS2 := Lib.hid (hd.s2 (bb - 1))
      have HNE := Lib.hid (dec_ne hd.at_ HLN.out)
      generalize v4.setCell ⟨g, m * 2 + 1, none⟩ (.int .i64 (bb - 1)) = v5 at *
      have HX := Lib.hid (HX0.out.keep K5)
      have HBB := Lib.hid ((K5.block b HBV.out).trans HBB0.out)
      have HL6 : Hid (L.length ≤ 60) := Lib.hid (by rw [← HLE.out]; exact gr_short HSR1.out.1 y)
      clear hd zz0 zz1 zf K5 HD HQ4 HX0
      go_region
      go_upto_if 59 with fail
      clear t29 hn1
      go_cut [5] from 59 to 62 (fun s5 wx => ∃ (n1 : Nat) (L1 : List Sp), s5 = .slice (some ⟨g, 0, none⟩) n1 c ∧ Hid (SpAt v5 (some ⟨g, 0, none⟩) n1 c L1 ∧ L1 ≠ L ∧ L1.length ≤ 60) ∧ Hid (Below v5.heap.size v5 wx))
      case first =>
        by_cases ab : bb - 1 < a
        · have t59 : decide (bb - 1 < a) = true := by simp; exact ab
          go_wp2_with fail
          go_meet
          case rel => exact ⟨m, L.take m, rfl, Lib.hid ⟨HS2.out, HNE.out.2, by rw [List.length_take]; exact Nat.le_trans (Nat.min_le_right _ _) HL6.out⟩, Lib.hid (Below.refl _ _).drew⟩
        · have t59 : decide (bb - 1 < a) = false := by simp; omega
          go_wp2_with fail
          go_meet
          case rel => exact ⟨m + 1, L.take m ++ [(a, bb - 1)], congrArg (fun q => Value.slice _ q _) HNM.out, Lib.hid ⟨HS1.out, HNE.out.1, by have := HLN.out; have := HL6.out; rw [List.length_append, List.length_take, Nat.min_eq_left (by omega)]; simp; omega⟩, Lib.hid (Below.refl _ _).drew⟩
      case rest =>
        obtain ⟨n1, L1, rfl, HR, HBc⟩ := hcut
        have HX := Lib.hid (HX.out.keep HBc.out)
        have HBB := Lib.hid ((HBc.out.block b (Array.getElem?_eq_some_iff.1 HBB.out).1).trans HBB.out)
        have HSC := Lib.hid (HR.out.1.keep HBc.out)
        clear a0 a1 a2 a3 y0 y1 HS1 HS2 HNE HBc HLO4 HBV HBB0 hf1 hf2 hf3 hf4 hm1 hm2 hnc m0 m3 HNM HLN
        have AF : Hid (∀ W, Fv.At ⟨P1, N1, co1, cn1, cc1, oo1, on1, oc1, cs1, os1⟩ W → Calls Try.prog 10 #[.agg #[.int .i64 P1, .int .i64 N1, .slice co1 cn1 cc1, .slice oo1 on1 oc1]] W fun e w' => ∃ (c2 : Option Addr) (k2 : Nat) (o2 : Option Addr) (j2 : Nat), e = .returned (.agg #[.int .i64 P1, .int .i64 N1, .slice c2 cn1 k2, .slice o2 on1 j2]) ∧ Hid (Fv.At ⟨P1, N1, c2, cn1, k2, o2, on1, j2, cs1, os1⟩ w') ∧ Hid (Below W.heap.size W w')) := Lib.hid (fun W h => anew_of ⟨P1, N1, co1, cn1, cc1, oo1, on1, oc1, cs1, os1⟩ W h HSR1.out.1)
        have a0 : wc.cell? ⟨b, 0, none⟩ = some (.int .i64 P1) := (HX.out).c0
        have a1 : wc.cell? ⟨b, 1, none⟩ = some (.int .i64 N1) := (HX.out).c1
        have a2 : wc.cell? ⟨b, 2, none⟩ = some (.slice co1 cn1 cc1) := (HX.out).c2
        have a3 : wc.cell? ⟨b, 3, none⟩ = some (.slice oo1 on1 oc1) := (HX.out).c3
        go_wp2_with fail
        (with_reducible refine (AF.out _ HX.out.at_).mono ?_)
        rintro e v1 ⟨co2, cc2, oo2, oc2, rfl, HG, q⟩
        have HX := Lib.hid (HX.out.keep q.out)
        have HK1 := Lib.hid HX.out.bw
        have HBB := Lib.hid ((q.out.block b (Array.getElem?_eq_some_iff.1 HBB.out).1).trans HBB.out)
        have HSC := Lib.hid (HSC.out.keep q.out)
        clear a0 a1 a2 a3 q AF
        obtain ⟨b2, hb2⟩ : ∃ b2, v1.heap.size = b2 := ⟨_, rfl⟩
        obtain ⟨v7, hv2⟩ : ∃ v7, v1.alloc (.cells #[.int .i64 P1, .int .i64 N1, .slice co2 cn1 cc2, .slice oo2 on1 oc2] 25) = v7 := ⟨_, rfl⟩
        have KV : Below v1.heap.size v1 v7 := by rw [← hv2]; exact (Below.refl _ v1).alloc (Nat.le_refl _) _
        have B2 : v7.heap[b2]? = some (.cells #[.int .i64 P1, .int .i64 N1, .slice co2 cn1 cc2, .slice oo2 on1 oc2] 25) := by rw [← hv2, ← hb2, new_al]
        have HX1 := HX.out.keep KV
        have HX2 : Hid (Duo w v7 b b2 ⟨P1, N1, co1, cn1, cc1, oo1, on1, oc1, cs1, os1⟩ ⟨P1, N1, co2, cn1, cc2, oo2, on1, oc2, cs1, os1⟩) := Lib.hid ⟨HX1, fbox_at (HG.out.keep KV) B2 HX1.bw⟩
        have HB2 := Lib.hid B2
        have HK2 := Lib.hid KV
        have HLB := Lib.hid hb2
        have HS5 : Hid (Sp5 v7 b2 (some ⟨g, 0, none⟩) n1 c L1) := Lib.hid (sp5_old HSC.out KV (Nat.le_of_eq hb2))
        have HB4 : Hid (b2 < v7.heap.size) := Lib.hid (Array.getElem?_eq_some_iff.1 B2).1
        have HSX : Hid (∀ W j (hj : j < os1.length), Below v7.heap.size v7 W → ∃ (q p0 : Nat) (ro : Option Addr) (rn rc : Nat), oo2 = some ⟨q, p0, none⟩ ∧ W.cell? ⟨q, p0 + j * 2, none⟩ = some (.int .i64 os1[j].1) ∧ W.cell? ⟨q, p0 + j * 2 + 1, none⟩ = some (.slice ro rn rc) ∧ Sp5 v7 b2 ro rn rc os1[j].2 ∧ -9223372036854775808 ≤ os1[j].1 ∧ os1[j].1 ≤ 9223372036854775807) := Lib.hid (fun W j hj hB => by
          have k1W := HK2.out.trans (hB.mono HK2.out.size)
          obtain ⟨q, p0, e, hc⟩ := HG.out.odd.here (by show 0 < on1; have := LO1.out; omega)
          obtain ⟨z0, ⟨o, m, dd, z1, y2⟩, x1, x2⟩ := hc j hj
          exact ⟨q, p0, o, m, dd, e, cell_keep z0 k1W, cell_keep z1 k1W, sp5_old y2 HK2.out (by rw [HLB.out]; exact Nat.le_refl _), x1, x2⟩)
        have hon1 : on1 ≤ 8 := HSR1.out.1.2.1
        have H0 : Hid (∃ T, PutU os1 y L1 0 false T ∧ Ex5 v7 b2 v7 (.slice none 0 0) T) := Lib.hid ⟨[], PutU.zero _ _ _, Ex5.nil _ _⟩
        go_upto_region 12 with fail
        try rw [hv2]
        clear hv2 hb2 HX KV B2 HX1
        have HX := HX2
        clear HX2
        have a0 : v7.cell? ⟨b, 0, none⟩ = some (.int .i64 P1) := (HX.out).a.c0
        have a1 : v7.cell? ⟨b, 1, none⟩ = some (.int .i64 N1) := (HX.out).a.c1
        have a2 : v7.cell? ⟨b, 2, none⟩ = some (.slice co1 cn1 cc1) := (HX.out).a.c2
        have a3 : v7.cell? ⟨b, 3, none⟩ = some (.slice oo1 on1 oc1) := (HX.out).a.c3
        have a4 : v7.cell? ⟨b2, 0, none⟩ = some (.int .i64 P1) := (HX.out).b.c0
        have a5 : v7.cell? ⟨b2, 1, none⟩ = some (.int .i64 N1) := (HX.out).b.c1
        have a6 : v7.cell? ⟨b2, 2, none⟩ = some (.slice co2 cn1 cc2) := (HX.out).b.c2
        have a7 : v7.cell? ⟨b2, 3, none⟩ = some (.slice oo2 on1 oc2) := (HX.out).b.c3
        go_wp2_with fail
        clear a0 a1 a2 a3 a4 a5 a6 a7
        go_loopw [9, 10, 68] (fun vv pp ii wr => ∃ (p : Bool) (j : Nat), j ≤ on1 ∧ pp = .bool p ∧ ii = .int .i64 (j : Int) ∧ Hid (∃ T, PutU os1 y L1 j p T ∧ Ex5 v7 b2 wr vv T)) (fun _ _ ii _ => on1 - (intOf ii).toNat)
        case atStart => exact ⟨false, 0, Nat.zero_le _, rfl, rfl, H0⟩
        case round =>
          clear H0
          obtain ⟨p, j, hj, rfl, rfl, HT⟩ := hrel
          obtain ⟨T, hput, hex⟩ := HT.out
          have HPU := Lib.hid hput
          have HE5 := Lib.hid hex
          clear HT hput hex
          have jt0 : (0 : Int) ≤ (j : Int) := by omega
          by_cases jlt : j < on1
          · have jt1 : (j : Int) < (on1 : Int) := by omega
            have hil : j < os1.length := by rw [LO1.out]; exact jlt
            obtain ⟨q, p0, o, mm, dd, rfl, z0, z1, y2, x1, x2⟩ := HSX.out wr j hil HE5.out.bw
            have HSY := Lib.hid y2
            have HIL := Lib.hid hil
            have HTL : Hid (T.length ≤ 1000) := Lib.hid (by have := HPU.out.len; omega)
            obtain ⟨X, hX⟩ : ∃ X, (os1[j]'hil).1 = X := ⟨_, rfl⟩
            obtain ⟨M, hM⟩ : ∃ M, (os1[j]'hil).2 = M := ⟨_, rfl⟩
            have HJE : Hid (∃ h : j < os1.length, os1[j]'h = (X, M)) := Lib.hid ⟨hil, Prod.ext hX hM⟩
            rw [hX] at z0 x1 x2
            rw [hM] at HSY
            clear y2 hX hM
            obtain ⟨bx, hbx⟩ : ∃ bx, wr.heap.size = bx := ⟨_, rfl⟩
            have KA : Below wr.heap.size wr (wr.alloc (.cells #[.int .i64 X, .slice o mm dd] 43)) := (Below.refl _ wr).alloc (Nat.le_refl _) _
            have BX0 : (wr.alloc (.cells #[.int .i64 X, .slice o mm dd] 43)).heap[bx]? = some (.cells #[.int .i64 X, .slice o mm dd] 43) := by rw [← hbx, new_al]
            have HNE : Hid (∀ q, u9.ownBlock = some q → q ≠ bx) := Lib.hid (fun q e => by have := HE5.out.lt q e; omega)
            have HE6 := Lib.hid (HE5.out.keep KA)
            go_upto_region 16 with fail
            generalize hwx : wr.alloc (.cells #[.int .i64 X, .slice o mm dd] 43) = wx
            rw [hwx] at BX0 HE6
            have BXS : Hid (bx < wx.heap.size) := Lib.hid (Array.getElem?_eq_some_iff.1 BX0).1
            clear KA hwx hbx z0 z1 HE5 hil
            have HE5 := HE6
            clear HE6
            have u0 : wx.cell? ⟨bx, 0, none⟩ = some (.int .i64 X) := cell_block BX0 0
            have u1 : wx.cell? ⟨bx, 1, none⟩ = some (.slice o mm dd) := cell_block BX0 1
            by_cases xy : X = y
            · have t79 : decide (y ≤ X) = true := by simp; omega
              have t92 : (X != y) = false := by simp; exact xy
              clear xy
              cases p
              · skip
                have HTQ : Hid (T.length ≤ 1000000) := Lib.hid (Nat.le_trans HTL.out (by decide))
                go_wp2_with (at_builtin; refine appG rfl _ _ rfl u9 T rfl HE5.out HB4.out y (some ⟨g, 0, none⟩) n1 c L1 HS5.out (by omega) (by omega) rfl HTQ.out ?_; intro a8 n8 c8 w8 HE8 HO8; have HN := Lib.hid HE8; have BX8 := (HO8 bx HNE.out BXS.out).trans BX0; have v0 : w8.cell? ⟨bx, 0, none⟩ = some (.int .i64 X) := cell_block BX8 0; have v1' : w8.cell? ⟨bx, 1, none⟩ = some (.slice o mm dd) := cell_block BX8 1; clear HO8 HE8 u0 u1)
                have HTN : Hid (∃ T9, PutU os1 y L1 (j + 1) true T9 ∧ Ex5 v7 b2 w8 (.slice a8 n8 c8) T9) := Lib.hid (let ⟨h, e⟩ := HJE.out; ⟨_, HPU.out.ins, HN.out⟩)
                go_wp2
                go_roundw
                case rel => exact ⟨true, j + 1, by omega, rfl, by go_num, HTN⟩
                case measure => simp [intOf]; omega
              · skip
                have HTN : Hid (∃ T9, PutU os1 y L1 (j + 1) true T9 ∧ Ex5 v7 b2 wx u9 T9) := Lib.hid ⟨_, HPU.out.skip, HE5.out⟩
                go_wp2
                go_roundw
                case rel => exact ⟨true, j + 1, by omega, rfl, by go_num, HTN⟩
                case measure => simp [intOf]; omega
            · have t92 : (X != y) = true := by simp; exact xy
              cases p
              · by_cases gt : X < y
                · have t79 : decide (y ≤ X) = false := by simp; omega
                  have HTQ : Hid (T.length ≤ 1000000) := Lib.hid (Nat.le_trans HTL.out (by decide))
                  go_wp2_with (at_builtin; go_loud (refine appG rfl _ _ rfl u9 T rfl HE5.out HB4.out X o mm dd M HSY.out x1 x2 rfl HTQ.out ?_); intro a8 n8 c8 w8 HE8 HO8)
                  have HN := Lib.hid HE8
                  clear HE8 HO8
                  have HTN : Hid (∃ T9, PutU os1 y L1 (j + 1) false T9 ∧ Ex5 v7 b2 w8 (.slice a8 n8 c8) T9) := Lib.hid (let ⟨h, e⟩ := HJE.out; ⟨_, HPU.out.step h e, HN.out⟩)
                  go_wp2
                  go_roundw
                  case rel => exact ⟨false, j + 1, by omega, rfl, by go_num, HTN⟩
                  case measure => simp [intOf]; omega
                · have t79 : decide (y ≤ X) = true := by simp; omega
                  have HTQ : Hid (T.length ≤ 1000000) := Lib.hid (Nat.le_trans HTL.out (by decide))
                  have HFL : True := trivial
                  go_wp2_with (at_builtin; first | (clear HFL; refine appG rfl _ _ rfl u9 T rfl HE5.out HB4.out y (some ⟨g, 0, none⟩) n1 c L1 HS5.out (by omega) (by omega) rfl HTQ.out ?_; intro a8 n8 c8 w8 HE8 HO8; have HE8 := Lib.hid HE8; have BX8 := (HO8 bx HNE.out BXS.out).trans BX0; have v0 : w8.cell? ⟨bx, 0, none⟩ = some (.int .i64 X) := cell_block BX8 0; have v1' : w8.cell? ⟨bx, 1, none⟩ = some (.slice o mm dd) := cell_block BX8 1; clear HO8 u0 u1) | (go_loud (refine appG rfl _ _ rfl (.slice a8 n8 c8) (T ++ [(y, L1)]) rfl HE8.out HB4.out X o mm dd M HSY.out x1 x2 rfl (by rw [List.length_append]; have := HTL.out; show T.length + 1 ≤ 1000000; omega) ?_); intro a9 n9 c9 w9 HE9 HO9))
                  have HN := Lib.hid HE9
                  clear HE9 HO9
                  have HTN : Hid (∃ T9, PutU os1 y L1 (j + 1) true T9 ∧ Ex5 v7 b2 w9 (.slice a9 n9 c9) T9) := Lib.hid (let ⟨h, e⟩ := HJE.out; ⟨_, HPU.out.step2 h e, HN.out⟩)
                  go_wp2
                  go_roundw
                  case rel => exact ⟨true, j + 1, by omega, rfl, by go_num, HTN⟩
                  case measure => simp [intOf]; omega
              · skip
                have HTQ : Hid (T.length ≤ 1000000) := Lib.hid (Nat.le_trans HTL.out (by decide))
                go_wp2_with (at_builtin; go_loud (refine appG rfl _ _ rfl u9 T rfl HE5.out HB4.out X o mm dd M HSY.out x1 x2 rfl HTQ.out ?_); intro a8 n8 c8 w8 HE8 HO8)
                have HN := Lib.hid HE8
                clear HE8 HO8
                have HTN : Hid (∃ T9, PutU os1 y L1 (j + 1) true T9 ∧ Ex5 v7 b2 w8 (.slice a8 n8 c8) T9) := Lib.hid (let ⟨h, e⟩ := HJE.out; ⟨_, HPU.out.step h e, HN.out⟩)
                go_wp2
                go_roundw
                case rel => exact ⟨true, j + 1, by omega, rfl, by go_num, HTN⟩
                case measure => simp [intOf]; omega
          · obtain rfl : on1 = j := by omega
            go_upto_if 99 with fail
            go_cut [9] from 99 to 106 (fun s9 wx => ∃ (a8 : Option Addr) (n8 c8 : Nat), s9 = .slice a8 n8 c8 ∧ Hid (∃ T9, PutU os1 y L1 (on1 + 1) true T9 ∧ Ex5 v7 b2 wx (.slice a8 n8 c8) T9))
            case first =>
              cases p
              · have HTQ : Hid (T.length ≤ 1000000) := Lib.hid (by have := HPU.out.len; omega)
                go_wp2_with (at_builtin; go_loud (refine appG rfl _ _ rfl u9 T rfl HE5.out HB4.out y (some ⟨g, 0, none⟩) n1 c L1 HS5.out (by omega) (by omega) rfl HTQ.out ?_); intro a8 n8 c8 w8 HE8 HO8; have HN := Lib.hid HE8; clear HE8 HO8)
                go_meet
                case rel => exact ⟨a8, n8, c8, rfl, Lib.hid ⟨_, HPU.out.ins, HN.out⟩⟩
              · obtain ⟨a8, c8, hv⟩ := HE5.out.shape HB4.out
                subst hv
                go_wp2_with fail
                go_meet
                case rel => exact ⟨a8, _, c8, rfl, Lib.hid ⟨_, HPU.out.finT, HE5.out⟩⟩
            case rest =>
              obtain ⟨a8, n8, c8, rfl, HT⟩ := hcut
              obtain ⟨T9, hput, hex⟩ := HT.out
              have HPF := Lib.hid hput
              have HDP := Lib.hid (duo_put (F := ⟨P1, N1, co1, cn1, cc1, oo1, on1, oc1, cs1, os1⟩) (G := ⟨P1, N1, co2, cn1, cc2, oo2, on1, oc2, cs1, os1⟩) HF.out HK1.out (Nat.le_of_eq HBE.out) HBB.out HG.out HLB.out HK2.out HB2.out (Below.refl _ _) hex (HPF.out.short HG.out.short.2 (Nat.le_trans HR.out.2.2 (by decide))))
              clear HT hput hex HE5 HPU
              have e3 := HDP.out.2.2.1
              have f3 := HDP.out.2.2.2
              go_upto_region 24 with fail
              have HX := Lib.hid HDP.out.1
              have HN9 := Lib.hid HDP.out.2.1
              generalize hwf : wc.setCell ⟨b2, 3, none⟩ (.slice a8 n8 c8) = wf
              rw [hwf] at HX
              clear hwf e3 f3 HDP
              have HX : Hid (Duo w wf b b2 ⟨P1, N1, co1, cn1, cc1, oo1, on1, oc1, cs1, os1⟩ ⟨P1, N1, co2, cn1, cc2, a8, n8, c8, cs1, T9⟩) := HX
              have HMI : Hid (Fv.Mid ⟨P1, N1, co2, cn1, cc2, a8, n8, c8, cs1, T9⟩) := Lib.hid (by
                have s := small_short HSR1.out.1
                have hs1 := HSR1.out.1.1
                have hs2 := HSR1.out.1.2.1
                have l1 := LC1.out
                have l2 := LO1.out
                refine mid_of ?_ ?_ LC1.out HN9.out ?_ ?_
                · show cs1.length ≤ 100
                  rw [l1]; exact Nat.le_trans hs1 (by decide)
                · show T9.length ≤ 100
                  have a := HPF.out.len
                  have hs2 : on1 ≤ 8 := hs2
                  omega
                · show ∀ l ∈ cs1, l.length ≤ 60
                  exact s.1
                · show ∀ o ∈ T9, o.2.length ≤ 60
                  exact HPF.out.short s.2 HR.out.2.2)
              by_cases rH : ¬ Fv.Rt ⟨P1, N1, co2, cn1, cc2, a8, n8, c8, cs1, T9⟩
              · have R3 : Hid (∀ W, Fv.At ⟨P1, N1, co2, cn1, cc2, a8, n8, c8, cs1, T9⟩ W → Calls Try.prog 19 #[.agg #[.int .i64 P1, .int .i64 N1, .slice co2 cn1 cc2, .slice a8 n8 c8]] W fun e w' => e = .returned (.int .i64 50) ∧ Below W.heap.size W w') := Lib.hid (fun W h => right_no50 ⟨P1, N1, co2, cn1, cc2, a8, n8, c8, cs1, T9⟩ HMI.out rH W h)
                have a0 : wf.cell? ⟨b, 0, none⟩ = some (.int .i64 P1) := (HX.out).a.c0
                have a1 : wf.cell? ⟨b, 1, none⟩ = some (.int .i64 N1) := (HX.out).a.c1
                have a2 : wf.cell? ⟨b, 2, none⟩ = some (.slice co1 cn1 cc1) := (HX.out).a.c2
                have a3 : wf.cell? ⟨b, 3, none⟩ = some (.slice oo1 on1 oc1) := (HX.out).a.c3
                have a4 : wf.cell? ⟨b2, 0, none⟩ = some (.int .i64 P1) := (HX.out).b.c0
                have a5 : wf.cell? ⟨b2, 1, none⟩ = some (.int .i64 N1) := (HX.out).b.c1
                have a6 : wf.cell? ⟨b2, 2, none⟩ = some (.slice co2 cn1 cc2) := (HX.out).b.c2
                have a7 : wf.cell? ⟨b2, 3, none⟩ = some (.slice a8 n8 c8) := (HX.out).b.c3
                go_wp2_with fail
                (with_reducible refine (R3.out _ HX.out.b.at_).mono ?_)
                rintro e vv ⟨rfl, q⟩
                have HX := Lib.hid (HX.out.keep q)
                clear a0 a1 a2 a3 a4 a5 a6 a7 q R3
                go_wp2_with fail
                (with_reducible refine (HAW.out _).mono ?_)
                rintro e wz ⟨rfl, qz⟩
                have HZ := Lib.hid (HX.out.a.bw.trans (qz.mono HX.out.a.bw.size))
                clear qz
                go_wp2
                go_returns
                exact ⟨rfl, HZ.out⟩
              · have rH := Classical.not_not.1 rH
                have R3 : Hid (∀ W, Fv.At ⟨P1, N1, co2, cn1, cc2, a8, n8, c8, cs1, T9⟩ W → Calls Try.prog 19 #[.agg #[.int .i64 P1, .int .i64 N1, .slice co2 cn1 cc2, .slice a8 n8 c8]] W fun e w' => e = .returned (.int .i64 0) ∧ Below W.heap.size W w') := Lib.hid (fun W h => right_ok ⟨P1, N1, co2, cn1, cc2, a8, n8, c8, cs1, T9⟩ HMI.out rH W h)
                have HRH := Lib.hid rH
                have HCN : Hid (¬ CanEq ⟨P1, N1, co1, cn1, cc1, oo1, on1, oc1, cs1, os1⟩ ⟨P1, N1, co2, cn1, cc2, a8, n8, c8, cs1, T9⟩) := Lib.hid (unlike_not (F := ⟨P1, N1, co1, cn1, cc1, oo1, on1, oc1, cs1, os1⟩) (G := ⟨P1, N1, co2, cn1, cc2, a8, n8, c8, cs1, T9⟩) HSR1.out.2 HRH.out LC1.out LC1.out (HPF.out.has rfl) (by rw [HLE.out]; exact HR.out.2.1))
                obtain ⟨sW, hsW⟩ : ∃ r : Bool, r = true ↔ CanEq ⟨P1, N1, co2, cn1, cc2, a8, n8, c8, cs1, T9⟩ (weeksF 7 [] none 0 none 0) := by classical exact ⟨decide _, decide_eq_true_iff⟩
                have HSW := Lib.hid hsW
                clear hsW
                have a0 : wf.cell? ⟨b, 0, none⟩ = some (.int .i64 P1) := (HX.out).a.c0
                have a1 : wf.cell? ⟨b, 1, none⟩ = some (.int .i64 N1) := (HX.out).a.c1
                have a2 : wf.cell? ⟨b, 2, none⟩ = some (.slice co1 cn1 cc1) := (HX.out).a.c2
                have a3 : wf.cell? ⟨b, 3, none⟩ = some (.slice oo1 on1 oc1) := (HX.out).a.c3
                have a4 : wf.cell? ⟨b2, 0, none⟩ = some (.int .i64 P1) := (HX.out).b.c0
                have a5 : wf.cell? ⟨b2, 1, none⟩ = some (.int .i64 N1) := (HX.out).b.c1
                have a6 : wf.cell? ⟨b2, 2, none⟩ = some (.slice co2 cn1 cc2) := (HX.out).b.c2
                have a7 : wf.cell? ⟨b2, 3, none⟩ = some (.slice a8 n8 c8) := (HX.out).b.c3
                go_wp2_with fail
                (with_reducible refine (R3.out _ HX.out.b.at_).mono ?_)
                rintro e vw ⟨rfl, q⟩
                have HX := Lib.hid (HX.out.keep q)
                clear a0 a1 a2 a3 a4 a5 a6 a7 q R3
                have D1 : Hid (∀ W, Fv.At ⟨P1, N1, co1, cn1, cc1, oo1, on1, oc1, cs1, os1⟩ W → Calls Try.prog 11 #[.agg #[.int .i64 P1, .int .i64 N1, .slice co1 cn1 cc1, .slice oo1 on1 oc1]] W fun e w' => ∃ p n c l k o m j g s, e = .returned (.agg #[.int .i64 p, .int .i64 n, .slice c l k, .slice o m j]) ∧ Hid (IsCan ⟨P1, N1, co1, cn1, cc1, oo1, on1, oc1, cs1, os1⟩ ⟨p, n, c, l, k, o, m, j, g, s⟩ ∧ Fv.At ⟨p, n, c, l, k, o, m, j, g, s⟩ w') ∧ Below W.heap.size W w') := Lib.hid (fun W h => (form_ok ⟨P1, N1, co1, cn1, cc1, oo1, on1, oc1, cs1, os1⟩ HSR1.out.1.mid HSR1.out.2 W h).mono (by rintro e w' ⟨⟨p, n, c, l, k, o, m, j, g, s⟩, rfl, hc, ho, q⟩; exact ⟨p, n, c, l, k, o, m, j, g, s, rfl, Lib.hid ⟨hc, ho.at_⟩, q⟩))
                have D2 : Hid (∀ W, Fv.At ⟨P1, N1, co2, cn1, cc2, a8, n8, c8, cs1, T9⟩ W → Calls Try.prog 11 #[.agg #[.int .i64 P1, .int .i64 N1, .slice co2 cn1 cc2, .slice a8 n8 c8]] W fun e w' => ∃ p n c l k o m j g s, e = .returned (.agg #[.int .i64 p, .int .i64 n, .slice c l k, .slice o m j]) ∧ Hid (IsCan ⟨P1, N1, co2, cn1, cc2, a8, n8, c8, cs1, T9⟩ ⟨p, n, c, l, k, o, m, j, g, s⟩ ∧ Fv.At ⟨p, n, c, l, k, o, m, j, g, s⟩ w') ∧ Below W.heap.size W w') := Lib.hid (fun W h => (form_ok ⟨P1, N1, co2, cn1, cc2, a8, n8, c8, cs1, T9⟩ HMI.out HRH.out W h).mono (by rintro e w' ⟨⟨p, n, c, l, k, o, m, j, g, s⟩, rfl, hc, ho, q⟩; exact ⟨p, n, c, l, k, o, m, j, g, s, rfl, Lib.hid ⟨hc, ho.at_⟩, q⟩))
                have HSN : Hid (∀ W, Fv.At ⟨P1, N1, co1, cn1, cc1, oo1, on1, oc1, cs1, os1⟩ W → Fv.At ⟨P1, N1, co2, cn1, cc2, a8, n8, c8, cs1, T9⟩ W → Calls Try.prog 18 #[.agg #[.int .i64 P1, .int .i64 N1, .slice co1 cn1 cc1, .slice oo1 on1 oc1], .agg #[.int .i64 P1, .int .i64 N1, .slice co2 cn1 cc2, .slice a8 n8 c8]] W fun e w' => e = .returned (.bool false) ∧ Below W.heap.size W w') := Lib.hid (fun W h k => same_ok ⟨P1, N1, co1, cn1, cc1, oo1, on1, oc1, cs1, os1⟩ ⟨P1, N1, co2, cn1, cc2, a8, n8, c8, cs1, T9⟩ HSR1.out.1.mid HMI.out HSR1.out.2 HRH.out W h k false ⟨(fun z => by cases z), fun z => absurd z HCN.out⟩)
                have HSG : Hid (∀ W, Fv.At ⟨P1, N1, co2, cn1, cc2, a8, n8, c8, cs1, T9⟩ W → Calls Try.prog 18 #[.agg #[.int .i64 P1, .int .i64 N1, .slice co2 cn1 cc2, .slice a8 n8 c8], .agg #[.int .i64 P1, .int .i64 N1, .slice co2 cn1 cc2, .slice a8 n8 c8]] W fun e w' => e = .returned (.bool true) ∧ Below W.heap.size W w') := Lib.hid (fun W k => same_ok ⟨P1, N1, co2, cn1, cc2, a8, n8, c8, cs1, T9⟩ ⟨P1, N1, co2, cn1, cc2, a8, n8, c8, cs1, T9⟩ HMI.out HMI.out HRH.out HRH.out W k k true ⟨fun _ => canEq_refl _, fun _ => rfl⟩)
                have HWK := Lib.hid (fun W => weeks_at W)
                have HS1 : Hid (∀ W co6 cc6, Fv.At ⟨P1, N1, co2, cn1, cc2, a8, n8, c8, cs1, T9⟩ W → Fv.At (weeksF 7 [] co6 cc6 none 0) W → Calls Try.prog 18 #[.agg #[.int .i64 P1, .int .i64 N1, .slice co2 cn1 cc2, .slice a8 n8 c8], .agg #[.int .i64 7, .int .i64 1, .slice co6 1 cc6, .slice none 0 0]] W fun e w' => e = .returned (.bool sW) ∧ Below W.heap.size W w') := Lib.hid (fun W co6 cc6 h k => same_ok ⟨P1, N1, co2, cn1, cc2, a8, n8, c8, cs1, T9⟩ (weeksF 7 [] co6 cc6 none 0) HMI.out (mid_weeks co6 cc6 none 0) HRH.out (rt_weeks co6 cc6 none 0) W h k sW ⟨fun z => canEq_weeks _ _ _ _ (HSW.out.1 z), fun z => HSW.out.2 (canEq_weeks' _ _ _ _ z)⟩)
                have HA1 : Hid (∀ W p n c l k o m j g s co9 cc9, IsCan ⟨P1, N1, co2, cn1, cc2, a8, n8, c8, cs1, T9⟩ ⟨p, n, c, l, k, o, m, j, g, s⟩ → Fv.At ⟨p, n, c, l, k, o, m, j, g, s⟩ W → Fv.At (weeksF 7 [] co9 cc9 none 0) W → Calls Try.prog 13 #[.agg #[.int .i64 p, .int .i64 n, .slice c l k, .slice o m j], .agg #[.int .i64 7, .int .i64 1, .slice co9 1 cc9, .slice none 0 0]] W fun e w' => e = .returned (.bool sW) ∧ Below W.heap.size W w') := Lib.hid (fun W p n c l k o m j g s co9 cc9 hc h k2 => alikeForms_any ⟨p, n, c, l, k, o, m, j, g, s⟩ (weeksF 7 [] co9 cc9 none 0) W h k2 sW ⟨fun z => (canEq_same hc (can_weeks none 0 none 0 co9 cc9 none 0)).1 (HSW.out.1 z), fun z => HSW.out.2 ((canEq_same hc (can_weeks none 0 none 0 co9 cc9 none 0)).2 z)⟩)
                clear HSW
                have HS : Hid (∀ W, Duo w W b b2 ⟨P1, N1, co1, cn1, cc1, oo1, on1, oc1, cs1, os1⟩ ⟨P1, N1, co2, cn1, cc2, a8, n8, c8, cs1, T9⟩ → W.cell? ⟨b, 0, none⟩ = some (.int .i64 P1) ∧ W.cell? ⟨b, 1, none⟩ = some (.int .i64 N1) ∧ W.cell? ⟨b, 2, none⟩ = some (.slice co1 cn1 cc1) ∧ W.cell? ⟨b, 3, none⟩ = some (.slice oo1 on1 oc1) ∧ W.cell? ⟨b2, 0, none⟩ = some (.int .i64 P1) ∧ W.cell? ⟨b2, 1, none⟩ = some (.int .i64 N1) ∧ W.cell? ⟨b2, 2, none⟩ = some (.slice co2 cn1 cc2) ∧ W.cell? ⟨b2, 3, none⟩ = some (.slice a8 n8 c8) ∧ Hid (Duo w W b b2 ⟨P1, N1, co1, cn1, cc1, oo1, on1, oc1, cs1, os1⟩ ⟨P1, N1, co2, cn1, cc2, a8, n8, c8, cs1, T9⟩)) := Lib.hid (fun W h => ⟨h.a.c0, h.a.c1, h.a.c2, h.a.c3, h.b.c0, h.b.c1, h.b.c2, h.b.c3, Lib.hid h⟩)
                go_upto_region 26 with fail
                cases sW
                · skip
                  refine wp_region_held_drew (S := (fun W => W.cell? ⟨b, 0, none⟩ = some (.int .i64 P1) ∧ W.cell? ⟨b, 1, none⟩ = some (.int .i64 N1) ∧ W.cell? ⟨b, 2, none⟩ = some (.slice co1 cn1 cc1) ∧ W.cell? ⟨b, 3, none⟩ = some (.slice oo1 on1 oc1) ∧ W.cell? ⟨b2, 0, none⟩ = some (.int .i64 P1) ∧ W.cell? ⟨b2, 1, none⟩ = some (.int .i64 N1) ∧ W.cell? ⟨b2, 2, none⟩ = some (.slice co2 cn1 cc2) ∧ W.cell? ⟨b2, 3, none⟩ = some (.slice a8 n8 c8) ∧ Hid (Duo w W b b2 ⟨P1, N1, co1, cn1, cc1, oo1, on1, oc1, cs1, os1⟩ ⟨P1, N1, co2, cn1, cc2, a8, n8, c8, cs1, T9⟩))) (by kernel_rfl) ?_ (fun hHeld => ?_)
                  · exact HS.out _ (HX.out.keep (Below.refl _ _).drew)
                  refine wpAnyH_take (i := 0) (oi := _) (v := ?_) rfl (by kernel_rfl) (by kernel_rfl) (by kernel_rfl) (fun _ _ _ h => h) (Or.inl ⟨by kernel_rfl, ?_⟩) (by assumption) ?_
                  rotate_left 1
                  focus (intro wq hSw; (try dsimp only at hSw); obtain ⟨s0, s1, s2, s3, s4, s5, s6, s7, s8⟩ := hSw; go_simp; (try with_reducible rfl); done)
                  try simp only [List.getElem_toArray, List.getElem_cons_zero, List.getElem_cons_succ, Act.put, List.setIfInBounds_toArray, List.set_cons_zero, List.set_cons_succ]
                  refine wpAnyH_take (i := 1) (oi := _) (v := ?_) rfl (by kernel_rfl) (by kernel_rfl) (by kernel_rfl) (fun _ _ _ h => h) (Or.inl ⟨by kernel_rfl, ?_⟩) (by assumption) ?_
                  rotate_left 1
                  focus (intro wq hSw; (try dsimp only at hSw); obtain ⟨s0, s1, s2, s3, s4, s5, s6, s7, s8⟩ := hSw; go_simp; (try with_reducible rfl); done)
                  try simp only [List.getElem_toArray, List.getElem_cons_zero, List.getElem_cons_succ, Act.put, List.setIfInBounds_toArray, List.set_cons_zero, List.set_cons_succ]
                  refine wpAnyH_ready (rs := [2]) (by kernel_rfl) (by simp) ?_
                  refine AllReadyH.cons (o := _) rfl (fun K hK => ?_) AllReadyH.nil
                  rw [if_pos (by kernel_rfl)]
                  go_simp
                  (go_at_call 18; (with_reducible refine (HSN.out _ hHeld.2.2.2.2.2.2.2.2.out.a.at_ hHeld.2.2.2.2.2.2.2.2.out.b.at_).mono ?_); rintro e z1 ⟨rfl, q⟩)
                  first | refine hK.out _ _ ?_ (fun hHeld => ?_) | (go_wp2_with fail; refine hK.out _ _ ?_ (fun hHeld => ?_))
                  · exact HS.out _ (hHeld.2.2.2.2.2.2.2.2.out.keep q)
                  clear hK K
                  try simp only [List.getElem_toArray, List.getElem_cons_zero, List.getElem_cons_succ, Act.put, List.setIfInBounds_toArray, List.set_cons_zero, List.set_cons_succ]
                  refine wpAnyH_take (i := 3) (oi := _) (v := ?_) rfl (by kernel_rfl) (by kernel_rfl) (by kernel_rfl) (fun _ _ _ h => h) (Or.inl ⟨by kernel_rfl, ?_⟩) (by assumption) ?_
                  rotate_left 1
                  focus (intro wq hSw; (try dsimp only at hSw); obtain ⟨s0, s1, s2, s3, s4, s5, s6, s7, s8⟩ := hSw; go_simp; (try with_reducible rfl); done)
                  try simp only [List.getElem_toArray, List.getElem_cons_zero, List.getElem_cons_succ, Act.put, List.setIfInBounds_toArray, List.set_cons_zero, List.set_cons_succ]
                  refine wpAnyH_take (i := 4) (oi := _) (v := ?_) rfl (by kernel_rfl) (by kernel_rfl) (by kernel_rfl) (fun _ _ _ h => h) (Or.inl ⟨by kernel_rfl, ?_⟩) (by assumption) ?_
                  rotate_left 1
                  focus (intro wq hSw; (try dsimp only at hSw); obtain ⟨s0, s1, s2, s3, s4, s5, s6, s7, s8⟩ := hSw; go_simp; (try with_reducible rfl); done)
                  try simp only [List.getElem_toArray, List.getElem_cons_zero, List.getElem_cons_succ, Act.put, List.setIfInBounds_toArray, List.set_cons_zero, List.set_cons_succ]
                  refine wpAnyH_take (i := 5) (oi := _) (v := ?_) rfl (by kernel_rfl) (by kernel_rfl) (by kernel_rfl) (fun _ _ _ h => h) (Or.inl ⟨by kernel_rfl, ?_⟩) (by assumption) ?_
                  rotate_left 1
                  focus (intro wq hSw; (try dsimp only at hSw); obtain ⟨s0, s1, s2, s3, s4, s5, s6, s7, s8⟩ := hSw; go_simp; (try with_reducible rfl); done)
                  try simp only [List.getElem_toArray, List.getElem_cons_zero, List.getElem_cons_succ, Act.put, List.setIfInBounds_toArray, List.set_cons_zero, List.set_cons_succ]
                  refine wpAnyH_take (i := 7) (oi := _) (v := ?_) rfl (by kernel_rfl) (by kernel_rfl) (by kernel_rfl) (fun _ _ _ h => h) (Or.inl ⟨by kernel_rfl, ?_⟩) (by assumption) ?_
                  rotate_left 1
                  focus (intro wq hSw; (try dsimp only at hSw); obtain ⟨s0, s1, s2, s3, s4, s5, s6, s7, s8⟩ := hSw; go_simp; (try with_reducible rfl); done)
                  try simp only [List.getElem_toArray, List.getElem_cons_zero, List.getElem_cons_succ, Act.put, List.setIfInBounds_toArray, List.set_cons_zero, List.set_cons_succ]
                  refine wpAnyH_ready (rs := [6]) (by kernel_rfl) (by simp) ?_
                  refine AllReadyH.cons (o := _) rfl (fun K hK => ?_) AllReadyH.nil
                  rw [if_pos (by kernel_rfl)]
                  go_simp
                  (go_at_call 11; (with_reducible refine (D1.out _ hHeld.2.2.2.2.2.2.2.2.out.a.at_).mono ?_); rintro e z2 ⟨p3, n3, c3, l3, k3, o3, m3, j3, g3, s3, rfl, HA, q⟩)
                  first | refine hK.out _ _ ?_ (fun hHeld => ?_) | (go_wp2_with fail; refine hK.out _ _ ?_ (fun hHeld => ?_))
                  · exact HS.out _ (hHeld.2.2.2.2.2.2.2.2.out.keep q)
                  clear hK K
                  try simp only [List.getElem_toArray, List.getElem_cons_zero, List.getElem_cons_succ, Act.put, List.setIfInBounds_toArray, List.set_cons_zero, List.set_cons_succ]
                  refine wpAnyH_ready (rs := [8]) (by kernel_rfl) (by simp) ?_
                  refine AllReadyH.cons (o := _) rfl (fun K hK => ?_) AllReadyH.nil
                  rw [if_pos (by kernel_rfl)]
                  go_simp
                  (go_at_call 11; (with_reducible refine (D2.out _ hHeld.2.2.2.2.2.2.2.2.out.b.at_).mono ?_); rintro e z3 ⟨p4, n4, c4, l4, k4, o4, m4, j4, g4, s4, rfl, HB, q⟩; have HA := Lib.hid (⟨HA.out.1, HA.out.2.keep q⟩ : _ ∧ _))
                  first | refine hK.out _ _ ?_ (fun hHeld => ?_) | (go_wp2_with fail; refine hK.out _ _ ?_ (fun hHeld => ?_))
                  · exact HS.out _ (hHeld.2.2.2.2.2.2.2.2.out.keep q)
                  clear hK K
                  try simp only [List.getElem_toArray, List.getElem_cons_zero, List.getElem_cons_succ, Act.put, List.setIfInBounds_toArray, List.set_cons_zero, List.set_cons_succ]
                  refine wpAnyH_ready (rs := [9]) (by kernel_rfl) (by simp) ?_
                  refine AllReadyH.cons (o := _) rfl (fun K hK => ?_) AllReadyH.nil
                  rw [if_pos (by kernel_rfl)]
                  go_simp
                  (go_at_call 13; (with_reducible refine (alikeForms_any ⟨p3, n3, c3, l3, k3, o3, m3, j3, g3, s3⟩ ⟨p4, n4, c4, l4, k4, o4, m4, j4, g4, s4⟩ _ HA.out.2 HB.out.2 false ⟨(fun z => by cases z), fun z => absurd ((canEq_same HA.out.1 HB.out.1).2 z) HCN.out⟩).mono ?_); rintro e z4 ⟨rfl, q⟩)
                  first | refine hK.out _ _ ?_ (fun hHeld => ?_) | (go_wp2_with fail; refine hK.out _ _ ?_ (fun hHeld => ?_))
                  · exact HS.out _ (hHeld.2.2.2.2.2.2.2.2.out.keep q)
                  clear hK K
                  try simp only [List.getElem_toArray, List.getElem_cons_zero, List.getElem_cons_succ, Act.put, List.setIfInBounds_toArray, List.set_cons_zero, List.set_cons_succ]
                  refine wpAnyH_take (i := 10) (oi := _) (v := ?_) rfl (by kernel_rfl) (by kernel_rfl) (by kernel_rfl) (fun _ _ _ h => h) (Or.inl ⟨by kernel_rfl, ?_⟩) (by assumption) ?_
                  rotate_left 1
                  focus (intro wq hSw; (try dsimp only at hSw); obtain ⟨s0, s1, s2, s3, s4, s5, s6, s7, s8⟩ := hSw; go_simp; (try with_reducible rfl); done)
                  try simp only [List.getElem_toArray, List.getElem_cons_zero, List.getElem_cons_succ, Act.put, List.setIfInBounds_toArray, List.set_cons_zero, List.set_cons_succ]
                  refine wpAnyH_take (i := 11) (oi := _) (v := ?_) rfl (by kernel_rfl) (by kernel_rfl) (by kernel_rfl) (fun _ _ _ h => h) (Or.inl ⟨by kernel_rfl, ?_⟩) (by assumption) ?_
                  rotate_left 1
                  focus (intro wq hSw; (try dsimp only at hSw); obtain ⟨s0, s1, s2, s3, s4, s5, s6, s7, s8⟩ := hSw; go_simp; (try with_reducible rfl); done)
                  try simp only [List.getElem_toArray, List.getElem_cons_zero, List.getElem_cons_succ, Act.put, List.setIfInBounds_toArray, List.set_cons_zero, List.set_cons_succ]
                  refine wpAnyH_take (i := 12) (oi := _) (v := ?_) rfl (by kernel_rfl) (by kernel_rfl) (by kernel_rfl) (fun _ _ _ h => h) (Or.inl ⟨by kernel_rfl, ?_⟩) (by assumption) ?_
                  rotate_left 1
                  focus (intro wq hSw; (try dsimp only at hSw); obtain ⟨s0, s1, s2, s3, s4, s5, s6, s7, s8⟩ := hSw; go_simp; (try with_reducible rfl); done)
                  try simp only [List.getElem_toArray, List.getElem_cons_zero, List.getElem_cons_succ, Act.put, List.setIfInBounds_toArray, List.set_cons_zero, List.set_cons_succ]
                  refine wpAnyH_take (i := 13) (oi := _) (v := ?_) rfl (by kernel_rfl) (by kernel_rfl) (by kernel_rfl) (fun _ _ _ h => h) (Or.inl ⟨by kernel_rfl, ?_⟩) (by assumption) ?_
                  rotate_left 1
                  focus (intro wq hSw; (try dsimp only at hSw); obtain ⟨s0, s1, s2, s3, s4, s5, s6, s7, s8⟩ := hSw; go_simp; (try with_reducible rfl); done)
                  try simp only [List.getElem_toArray, List.getElem_cons_zero, List.getElem_cons_succ, Act.put, List.setIfInBounds_toArray, List.set_cons_zero, List.set_cons_succ]
                  refine wpAnyH_take (i := 14) (oi := _) (v := ?_) rfl (by kernel_rfl) (by kernel_rfl) (by kernel_rfl) (fun _ _ _ h => h) (Or.inl ⟨by kernel_rfl, ?_⟩) (by assumption) ?_
                  rotate_left 1
                  focus (intro wq hSw; (try dsimp only at hSw); obtain ⟨s0, s1, s2, s3, s4, s5, s6, s7, s8⟩ := hSw; go_simp; (try with_reducible rfl); done)
                  try simp only [List.getElem_toArray, List.getElem_cons_zero, List.getElem_cons_succ, Act.put, List.setIfInBounds_toArray, List.set_cons_zero, List.set_cons_succ]
                  refine wpAnyH_ready (rs := [15]) (by kernel_rfl) (by simp) ?_
                  refine AllReadyH.cons (o := _) rfl (fun K hK => ?_) AllReadyH.nil
                  rw [if_pos (by kernel_rfl)]
                  go_simp
                  (go_at_call 18; (with_reducible refine (HSG.out _ hHeld.2.2.2.2.2.2.2.2.out.b.at_).mono ?_); rintro e z5 ⟨rfl, q⟩)
                  first | refine hK.out _ _ ?_ (fun hHeld => ?_) | (go_wp2_with fail; refine hK.out _ _ ?_ (fun hHeld => ?_))
                  · exact HS.out _ (hHeld.2.2.2.2.2.2.2.2.out.keep q)
                  clear hK K
                  try simp only [List.getElem_toArray, List.getElem_cons_zero, List.getElem_cons_succ, Act.put, List.setIfInBounds_toArray, List.set_cons_zero, List.set_cons_succ]
                  refine wpAnyH_take (i := 16) (oi := _) (v := ?_) rfl (by kernel_rfl) (by kernel_rfl) (by kernel_rfl) (fun _ _ _ h => h) (Or.inl ⟨by kernel_rfl, ?_⟩) (by assumption) ?_
                  rotate_left 1
                  focus (intro wq hSw; (try dsimp only at hSw); obtain ⟨s0, s1, s2, s3, s4, s5, s6, s7, s8⟩ := hSw; go_simp; (try with_reducible rfl); done)
                  try simp only [List.getElem_toArray, List.getElem_cons_zero, List.getElem_cons_succ, Act.put, List.setIfInBounds_toArray, List.set_cons_zero, List.set_cons_succ]
                  refine wpAnyH_take (i := 17) (oi := _) (v := ?_) rfl (by kernel_rfl) (by kernel_rfl) (by kernel_rfl) (fun _ _ _ h => h) (Or.inl ⟨by kernel_rfl, ?_⟩) (by assumption) ?_
                  rotate_left 1
                  focus (intro wq hSw; (try dsimp only at hSw); obtain ⟨s0, s1, s2, s3, s4, s5, s6, s7, s8⟩ := hSw; go_simp; (try with_reducible rfl); done)
                  try simp only [List.getElem_toArray, List.getElem_cons_zero, List.getElem_cons_succ, Act.put, List.setIfInBounds_toArray, List.set_cons_zero, List.set_cons_succ]
                  refine wpAnyH_take (i := 18) (oi := _) (v := ?_) rfl (by kernel_rfl) (by kernel_rfl) (by kernel_rfl) (fun _ _ _ h => h) (Or.inl ⟨by kernel_rfl, ?_⟩) (by assumption) ?_
                  rotate_left 1
                  focus (intro wq hSw; (try dsimp only at hSw); obtain ⟨s0, s1, s2, s3, s4, s5, s6, s7, s8⟩ := hSw; go_simp; (try with_reducible rfl); done)
                  try simp only [List.getElem_toArray, List.getElem_cons_zero, List.getElem_cons_succ, Act.put, List.setIfInBounds_toArray, List.set_cons_zero, List.set_cons_succ]
                  refine wpAnyH_take (i := 22) (oi := _) (v := ?_) rfl (by kernel_rfl) (by kernel_rfl) (by kernel_rfl) (fun _ _ _ h => h) (Or.inl ⟨by kernel_rfl, ?_⟩) (by assumption) ?_
                  rotate_left 1
                  focus (intro wq hSw; (try dsimp only at hSw); obtain ⟨s0, s1, s2, s3, s4, s5, s6, s7, s8⟩ := hSw; go_simp; (try with_reducible rfl); done)
                  try simp only [List.getElem_toArray, List.getElem_cons_zero, List.getElem_cons_succ, Act.put, List.setIfInBounds_toArray, List.set_cons_zero, List.set_cons_succ]
                  refine wpAnyH_ready (rs := [19]) (by kernel_rfl) (by simp) ?_
                  refine AllReadyH.cons (o := _) rfl (fun K hK => ?_) AllReadyH.nil
                  rw [if_pos (by kernel_rfl)]
                  go_simp
                  (go_at_call 22; (with_reducible refine (HWK.out _).mono ?_); rintro e z6 ⟨co6, cc6, rfl, HW, q⟩)
                  first | refine hK.out _ _ ?_ (fun hHeld => ?_) | (go_wp2_with fail; refine hK.out _ _ ?_ (fun hHeld => ?_))
                  · exact HS.out _ (hHeld.2.2.2.2.2.2.2.2.out.keep q)
                  clear hK K
                  try simp only [List.getElem_toArray, List.getElem_cons_zero, List.getElem_cons_succ, Act.put, List.setIfInBounds_toArray, List.set_cons_zero, List.set_cons_succ]
                  refine wpAnyH_ready (rs := [20]) (by kernel_rfl) (by simp) ?_
                  refine AllReadyH.cons (o := _) rfl (fun K hK => ?_) AllReadyH.nil
                  rw [if_pos (by kernel_rfl)]
                  go_simp
                  (go_at_call 18; (with_reducible refine (HS1.out _ _ _ hHeld.2.2.2.2.2.2.2.2.out.b.at_ HW.out).mono ?_); rintro e z7 ⟨rfl, q⟩)
                  first | refine hK.out _ _ ?_ (fun hHeld => ?_) | (go_wp2_with fail; refine hK.out _ _ ?_ (fun hHeld => ?_))
                  · exact HS.out _ (hHeld.2.2.2.2.2.2.2.2.out.keep q)
                  clear hK K
                  try simp only [List.getElem_toArray, List.getElem_cons_zero, List.getElem_cons_succ, Act.put, List.setIfInBounds_toArray, List.set_cons_zero, List.set_cons_succ]
                  refine wpAnyH_take (i := 21) (oi := _) (v := ?_) rfl (by kernel_rfl) (by kernel_rfl) (by kernel_rfl) (fun _ _ _ h => h) (Or.inl ⟨by kernel_rfl, ?_⟩) (by assumption) ?_
                  rotate_left 1
                  focus (intro wq hSw; (try dsimp only at hSw); obtain ⟨s0, s1, s2, s3, s4, s5, s6, s7, s8⟩ := hSw; go_simp; (try with_reducible rfl); done)
                  try simp only [List.getElem_toArray, List.getElem_cons_zero, List.getElem_cons_succ, Act.put, List.setIfInBounds_toArray, List.set_cons_zero, List.set_cons_succ]
                  refine wpAnyH_ready (rs := [23]) (by kernel_rfl) (by simp) ?_
                  refine AllReadyH.cons (o := _) rfl (fun K hK => ?_) AllReadyH.nil
                  rw [if_pos (by kernel_rfl)]
                  go_simp
                  (go_at_call 11; (with_reducible refine (D2.out _ hHeld.2.2.2.2.2.2.2.2.out.b.at_).mono ?_); rintro e z8 ⟨p5, n5, c5, l5, k5, o5, m5, j5, g5, s5, rfl, HC, q⟩)
                  first | refine hK.out _ _ ?_ (fun hHeld => ?_) | (go_wp2_with fail; refine hK.out _ _ ?_ (fun hHeld => ?_))
                  · exact HS.out _ (hHeld.2.2.2.2.2.2.2.2.out.keep q)
                  clear hK K
                  try simp only [List.getElem_toArray, List.getElem_cons_zero, List.getElem_cons_succ, Act.put, List.setIfInBounds_toArray, List.set_cons_zero, List.set_cons_succ]
                  refine wpAnyH_ready (rs := [24]) (by kernel_rfl) (by simp) ?_
                  refine AllReadyH.cons (o := _) rfl (fun K hK => ?_) AllReadyH.nil
                  rw [if_pos (by kernel_rfl)]
                  go_simp
                  (go_at_call 22; (with_reducible refine (HWK.out _).mono ?_); rintro e z9 ⟨co9, cc9, rfl, HW, q⟩; have HC := Lib.hid (⟨HC.out.1, HC.out.2.keep q⟩ : _ ∧ _))
                  first | refine hK.out _ _ ?_ (fun hHeld => ?_) | (go_wp2_with fail; refine hK.out _ _ ?_ (fun hHeld => ?_))
                  · exact HS.out _ (hHeld.2.2.2.2.2.2.2.2.out.keep q)
                  clear hK K
                  try simp only [List.getElem_toArray, List.getElem_cons_zero, List.getElem_cons_succ, Act.put, List.setIfInBounds_toArray, List.set_cons_zero, List.set_cons_succ]
                  refine wpAnyH_ready (rs := [25]) (by kernel_rfl) (by simp) ?_
                  refine AllReadyH.cons (o := _) rfl (fun K hK => ?_) AllReadyH.nil
                  rw [if_pos (by kernel_rfl)]
                  go_simp
                  (go_at_call 13; (with_reducible refine (HA1.out _ _ _ _ _ _ _ _ _ _ _ _ _ HC.out.1 HC.out.2 HW.out).mono ?_); rintro e z10 ⟨rfl, q⟩)
                  first | refine hK.out _ _ ?_ (fun hHeld => ?_) | (go_wp2_with fail; refine hK.out _ _ ?_ (fun hHeld => ?_))
                  · exact HS.out _ (hHeld.2.2.2.2.2.2.2.2.out.keep q)
                  clear hK K
                  try simp only [List.getElem_toArray, List.getElem_cons_zero, List.getElem_cons_succ, Act.put, List.setIfInBounds_toArray, List.set_cons_zero, List.set_cons_succ]
                  refine wpAnyH_take (i := 26) (oi := _) (v := ?_) rfl (by kernel_rfl) (by kernel_rfl) (by kernel_rfl) (fun _ _ _ h => h) (Or.inl ⟨by kernel_rfl, ?_⟩) (by assumption) ?_
                  rotate_left 1
                  focus (intro wq hSw; (try dsimp only at hSw); obtain ⟨s0, s1, s2, s3, s4, s5, s6, s7, s8⟩ := hSw; go_simp; (try with_reducible rfl); done)
                  try simp only [List.getElem_toArray, List.getElem_cons_zero, List.getElem_cons_succ, Act.put, List.setIfInBounds_toArray, List.set_cons_zero, List.set_cons_succ]
                  refine wpAnyH_take (i := 27) (oi := _) (v := ?_) rfl (by kernel_rfl) (by kernel_rfl) (by kernel_rfl) (fun _ _ _ h => h) (Or.inl ⟨by kernel_rfl, ?_⟩) (by assumption) ?_
                  rotate_left 1
                  focus (intro wq hSw; (try dsimp only at hSw); obtain ⟨s0, s1, s2, s3, s4, s5, s6, s7, s8⟩ := hSw; go_simp; (try with_reducible rfl); done)
                  try simp only [List.getElem_toArray, List.getElem_cons_zero, List.getElem_cons_succ, Act.put, List.setIfInBounds_toArray, List.set_cons_zero, List.set_cons_succ]
                  refine wpAnyH_take (i := 28) (oi := _) (v := ?_) rfl (by kernel_rfl) (by kernel_rfl) (by kernel_rfl) (fun _ _ _ h => h) (Or.inl ⟨by kernel_rfl, ?_⟩) (by assumption) ?_
                  rotate_left 1
                  focus (intro wq hSw; (try dsimp only at hSw); obtain ⟨s0, s1, s2, s3, s4, s5, s6, s7, s8⟩ := hSw; go_simp; (try with_reducible rfl); done)
                  try simp only [List.getElem_toArray, List.getElem_cons_zero, List.getElem_cons_succ, Act.put, List.setIfInBounds_toArray, List.set_cons_zero, List.set_cons_succ]
                  refine wpAnyH_take (i := 29) (oi := _) (v := ?_) rfl (by kernel_rfl) (by kernel_rfl) (by kernel_rfl) (fun _ _ _ h => h) (Or.inl ⟨by kernel_rfl, ?_⟩) (by assumption) ?_
                  rotate_left 1
                  focus (intro wq hSw; (try dsimp only at hSw); obtain ⟨s0, s1, s2, s3, s4, s5, s6, s7, s8⟩ := hSw; go_simp; (try with_reducible rfl); done)
                  try simp only [List.getElem_toArray, List.getElem_cons_zero, List.getElem_cons_succ, Act.put, List.setIfInBounds_toArray, List.set_cons_zero, List.set_cons_succ]
                  refine wpAnyH_ready (rs := [30]) (by kernel_rfl) (by simp) ?_
                  refine AllReadyH.cons (o := _) rfl (fun K hK => ?_) AllReadyH.nil
                  rw [if_pos (by kernel_rfl)]
                  go_simp
                  (go_at_call 9; (with_reducible refine (HAW.out _).mono ?_); rintro e z11 ⟨rfl, q⟩)
                  first | refine hK.out _ _ ?_ (fun hHeld => ?_) | (go_wp2_with fail; refine hK.out _ _ ?_ (fun hHeld => ?_))
                  · exact HS.out _ (hHeld.2.2.2.2.2.2.2.2.out.keep q)
                  clear hK K
                  try simp only [List.getElem_toArray, List.getElem_cons_zero, List.getElem_cons_succ, Act.put, List.setIfInBounds_toArray, List.set_cons_zero, List.set_cons_succ]
                  refine wpAnyH_take (i := 31) (oi := _) (v := ?_) rfl (by kernel_rfl) (by kernel_rfl) (by kernel_rfl) (fun _ _ _ h => h) (Or.inl ⟨by kernel_rfl, ?_⟩) (by assumption) ?_
                  rotate_left 1
                  focus (intro wq hSw; (try dsimp only at hSw); obtain ⟨s0, s1, s2, s3, s4, s5, s6, s7, s8⟩ := hSw; go_simp; (try with_reducible rfl); done)
                  try simp only [List.getElem_toArray, List.getElem_cons_zero, List.getElem_cons_succ, Act.put, List.setIfInBounds_toArray, List.set_cons_zero, List.set_cons_succ]
                  refine wpAnyH_take (i := 32) (oi := _) (v := ?_) rfl (by kernel_rfl) (by kernel_rfl) (by kernel_rfl) (fun _ _ _ h => h) (Or.inl ⟨by kernel_rfl, ?_⟩) (by assumption) ?_
                  rotate_left 1
                  focus (intro wq hSw; (try dsimp only at hSw); obtain ⟨s0, s1, s2, s3, s4, s5, s6, s7, s8⟩ := hSw; go_simp; (try with_reducible rfl); done)
                  try simp only [List.getElem_toArray, List.getElem_cons_zero, List.getElem_cons_succ, Act.put, List.setIfInBounds_toArray, List.set_cons_zero, List.set_cons_succ]
                  refine wpAnyH_done (by kernel_rfl) ?_ _
                  go_wp2
                  go_returns
                  exact ⟨rfl, hHeld.2.2.2.2.2.2.2.2.out.a.bw⟩
                · skip
                  refine wp_region_held_drew (S := (fun W => W.cell? ⟨b, 0, none⟩ = some (.int .i64 P1) ∧ W.cell? ⟨b, 1, none⟩ = some (.int .i64 N1) ∧ W.cell? ⟨b, 2, none⟩ = some (.slice co1 cn1 cc1) ∧ W.cell? ⟨b, 3, none⟩ = some (.slice oo1 on1 oc1) ∧ W.cell? ⟨b2, 0, none⟩ = some (.int .i64 P1) ∧ W.cell? ⟨b2, 1, none⟩ = some (.int .i64 N1) ∧ W.cell? ⟨b2, 2, none⟩ = some (.slice co2 cn1 cc2) ∧ W.cell? ⟨b2, 3, none⟩ = some (.slice a8 n8 c8) ∧ Hid (Duo w W b b2 ⟨P1, N1, co1, cn1, cc1, oo1, on1, oc1, cs1, os1⟩ ⟨P1, N1, co2, cn1, cc2, a8, n8, c8, cs1, T9⟩))) (by kernel_rfl) ?_ (fun hHeld => ?_)
                  · exact HS.out _ (HX.out.keep (Below.refl _ _).drew)
                  refine wpAnyH_take (i := 0) (oi := _) (v := ?_) rfl (by kernel_rfl) (by kernel_rfl) (by kernel_rfl) (fun _ _ _ h => h) (Or.inl ⟨by kernel_rfl, ?_⟩) (by assumption) ?_
                  rotate_left 1
                  focus (intro wq hSw; (try dsimp only at hSw); obtain ⟨s0, s1, s2, s3, s4, s5, s6, s7, s8⟩ := hSw; go_simp; (try with_reducible rfl); done)
                  try simp only [List.getElem_toArray, List.getElem_cons_zero, List.getElem_cons_succ, Act.put, List.setIfInBounds_toArray, List.set_cons_zero, List.set_cons_succ]
                  refine wpAnyH_take (i := 1) (oi := _) (v := ?_) rfl (by kernel_rfl) (by kernel_rfl) (by kernel_rfl) (fun _ _ _ h => h) (Or.inl ⟨by kernel_rfl, ?_⟩) (by assumption) ?_
                  rotate_left 1
                  focus (intro wq hSw; (try dsimp only at hSw); obtain ⟨s0, s1, s2, s3, s4, s5, s6, s7, s8⟩ := hSw; go_simp; (try with_reducible rfl); done)
                  try simp only [List.getElem_toArray, List.getElem_cons_zero, List.getElem_cons_succ, Act.put, List.setIfInBounds_toArray, List.set_cons_zero, List.set_cons_succ]
                  refine wpAnyH_ready (rs := [2]) (by kernel_rfl) (by simp) ?_
                  refine AllReadyH.cons (o := _) rfl (fun K hK => ?_) AllReadyH.nil
                  rw [if_pos (by kernel_rfl)]
                  go_simp
                  (go_at_call 18; (with_reducible refine (HSN.out _ hHeld.2.2.2.2.2.2.2.2.out.a.at_ hHeld.2.2.2.2.2.2.2.2.out.b.at_).mono ?_); rintro e z1 ⟨rfl, q⟩)
                  first | refine hK.out _ _ ?_ (fun hHeld => ?_) | (go_wp2_with fail; refine hK.out _ _ ?_ (fun hHeld => ?_))
                  · exact HS.out _ (hHeld.2.2.2.2.2.2.2.2.out.keep q)
                  clear hK K
                  try simp only [List.getElem_toArray, List.getElem_cons_zero, List.getElem_cons_succ, Act.put, List.setIfInBounds_toArray, List.set_cons_zero, List.set_cons_succ]
                  refine wpAnyH_take (i := 3) (oi := _) (v := ?_) rfl (by kernel_rfl) (by kernel_rfl) (by kernel_rfl) (fun _ _ _ h => h) (Or.inl ⟨by kernel_rfl, ?_⟩) (by assumption) ?_
                  rotate_left 1
                  focus (intro wq hSw; (try dsimp only at hSw); obtain ⟨s0, s1, s2, s3, s4, s5, s6, s7, s8⟩ := hSw; go_simp; (try with_reducible rfl); done)
                  try simp only [List.getElem_toArray, List.getElem_cons_zero, List.getElem_cons_succ, Act.put, List.setIfInBounds_toArray, List.set_cons_zero, List.set_cons_succ]
                  refine wpAnyH_take (i := 4) (oi := _) (v := ?_) rfl (by kernel_rfl) (by kernel_rfl) (by kernel_rfl) (fun _ _ _ h => h) (Or.inl ⟨by kernel_rfl, ?_⟩) (by assumption) ?_
                  rotate_left 1
                  focus (intro wq hSw; (try dsimp only at hSw); obtain ⟨s0, s1, s2, s3, s4, s5, s6, s7, s8⟩ := hSw; go_simp; (try with_reducible rfl); done)
                  try simp only [List.getElem_toArray, List.getElem_cons_zero, List.getElem_cons_succ, Act.put, List.setIfInBounds_toArray, List.set_cons_zero, List.set_cons_succ]
                  refine wpAnyH_take (i := 5) (oi := _) (v := ?_) rfl (by kernel_rfl) (by kernel_rfl) (by kernel_rfl) (fun _ _ _ h => h) (Or.inl ⟨by kernel_rfl, ?_⟩) (by assumption) ?_
                  rotate_left 1
                  focus (intro wq hSw; (try dsimp only at hSw); obtain ⟨s0, s1, s2, s3, s4, s5, s6, s7, s8⟩ := hSw; go_simp; (try with_reducible rfl); done)
                  try simp only [List.getElem_toArray, List.getElem_cons_zero, List.getElem_cons_succ, Act.put, List.setIfInBounds_toArray, List.set_cons_zero, List.set_cons_succ]
                  refine wpAnyH_take (i := 7) (oi := _) (v := ?_) rfl (by kernel_rfl) (by kernel_rfl) (by kernel_rfl) (fun _ _ _ h => h) (Or.inl ⟨by kernel_rfl, ?_⟩) (by assumption) ?_
                  rotate_left 1
                  focus (intro wq hSw; (try dsimp only at hSw); obtain ⟨s0, s1, s2, s3, s4, s5, s6, s7, s8⟩ := hSw; go_simp; (try with_reducible rfl); done)
                  try simp only [List.getElem_toArray, List.getElem_cons_zero, List.getElem_cons_succ, Act.put, List.setIfInBounds_toArray, List.set_cons_zero, List.set_cons_succ]
                  refine wpAnyH_ready (rs := [6]) (by kernel_rfl) (by simp) ?_
                  refine AllReadyH.cons (o := _) rfl (fun K hK => ?_) AllReadyH.nil
                  rw [if_pos (by kernel_rfl)]
                  go_simp
                  (go_at_call 11; (with_reducible refine (D1.out _ hHeld.2.2.2.2.2.2.2.2.out.a.at_).mono ?_); rintro e z2 ⟨p3, n3, c3, l3, k3, o3, m3, j3, g3, s3, rfl, HA, q⟩)
                  first | refine hK.out _ _ ?_ (fun hHeld => ?_) | (go_wp2_with fail; refine hK.out _ _ ?_ (fun hHeld => ?_))
                  · exact HS.out _ (hHeld.2.2.2.2.2.2.2.2.out.keep q)
                  clear hK K
                  try simp only [List.getElem_toArray, List.getElem_cons_zero, List.getElem_cons_succ, Act.put, List.setIfInBounds_toArray, List.set_cons_zero, List.set_cons_succ]
                  refine wpAnyH_ready (rs := [8]) (by kernel_rfl) (by simp) ?_
                  refine AllReadyH.cons (o := _) rfl (fun K hK => ?_) AllReadyH.nil
                  rw [if_pos (by kernel_rfl)]
                  go_simp
                  (go_at_call 11; (with_reducible refine (D2.out _ hHeld.2.2.2.2.2.2.2.2.out.b.at_).mono ?_); rintro e z3 ⟨p4, n4, c4, l4, k4, o4, m4, j4, g4, s4, rfl, HB, q⟩; have HA := Lib.hid (⟨HA.out.1, HA.out.2.keep q⟩ : _ ∧ _))
                  first | refine hK.out _ _ ?_ (fun hHeld => ?_) | (go_wp2_with fail; refine hK.out _ _ ?_ (fun hHeld => ?_))
                  · exact HS.out _ (hHeld.2.2.2.2.2.2.2.2.out.keep q)
                  clear hK K
                  try simp only [List.getElem_toArray, List.getElem_cons_zero, List.getElem_cons_succ, Act.put, List.setIfInBounds_toArray, List.set_cons_zero, List.set_cons_succ]
                  refine wpAnyH_ready (rs := [9]) (by kernel_rfl) (by simp) ?_
                  refine AllReadyH.cons (o := _) rfl (fun K hK => ?_) AllReadyH.nil
                  rw [if_pos (by kernel_rfl)]
                  go_simp
                  (go_at_call 13; (with_reducible refine (alikeForms_any ⟨p3, n3, c3, l3, k3, o3, m3, j3, g3, s3⟩ ⟨p4, n4, c4, l4, k4, o4, m4, j4, g4, s4⟩ _ HA.out.2 HB.out.2 false ⟨(fun z => by cases z), fun z => absurd ((canEq_same HA.out.1 HB.out.1).2 z) HCN.out⟩).mono ?_); rintro e z4 ⟨rfl, q⟩)
                  first | refine hK.out _ _ ?_ (fun hHeld => ?_) | (go_wp2_with fail; refine hK.out _ _ ?_ (fun hHeld => ?_))
                  · exact HS.out _ (hHeld.2.2.2.2.2.2.2.2.out.keep q)
                  clear hK K
                  try simp only [List.getElem_toArray, List.getElem_cons_zero, List.getElem_cons_succ, Act.put, List.setIfInBounds_toArray, List.set_cons_zero, List.set_cons_succ]
                  refine wpAnyH_take (i := 10) (oi := _) (v := ?_) rfl (by kernel_rfl) (by kernel_rfl) (by kernel_rfl) (fun _ _ _ h => h) (Or.inl ⟨by kernel_rfl, ?_⟩) (by assumption) ?_
                  rotate_left 1
                  focus (intro wq hSw; (try dsimp only at hSw); obtain ⟨s0, s1, s2, s3, s4, s5, s6, s7, s8⟩ := hSw; go_simp; (try with_reducible rfl); done)
                  try simp only [List.getElem_toArray, List.getElem_cons_zero, List.getElem_cons_succ, Act.put, List.setIfInBounds_toArray, List.set_cons_zero, List.set_cons_succ]
                  refine wpAnyH_take (i := 11) (oi := _) (v := ?_) rfl (by kernel_rfl) (by kernel_rfl) (by kernel_rfl) (fun _ _ _ h => h) (Or.inl ⟨by kernel_rfl, ?_⟩) (by assumption) ?_
                  rotate_left 1
                  focus (intro wq hSw; (try dsimp only at hSw); obtain ⟨s0, s1, s2, s3, s4, s5, s6, s7, s8⟩ := hSw; go_simp; (try with_reducible rfl); done)
                  try simp only [List.getElem_toArray, List.getElem_cons_zero, List.getElem_cons_succ, Act.put, List.setIfInBounds_toArray, List.set_cons_zero, List.set_cons_succ]
                  refine wpAnyH_take (i := 12) (oi := _) (v := ?_) rfl (by kernel_rfl) (by kernel_rfl) (by kernel_rfl) (fun _ _ _ h => h) (Or.inl ⟨by kernel_rfl, ?_⟩) (by assumption) ?_
                  rotate_left 1
                  focus (intro wq hSw; (try dsimp only at hSw); obtain ⟨s0, s1, s2, s3, s4, s5, s6, s7, s8⟩ := hSw; go_simp; (try with_reducible rfl); done)
                  try simp only [List.getElem_toArray, List.getElem_cons_zero, List.getElem_cons_succ, Act.put, List.setIfInBounds_toArray, List.set_cons_zero, List.set_cons_succ]
                  refine wpAnyH_take (i := 13) (oi := _) (v := ?_) rfl (by kernel_rfl) (by kernel_rfl) (by kernel_rfl) (fun _ _ _ h => h) (Or.inl ⟨by kernel_rfl, ?_⟩) (by assumption) ?_
                  rotate_left 1
                  focus (intro wq hSw; (try dsimp only at hSw); obtain ⟨s0, s1, s2, s3, s4, s5, s6, s7, s8⟩ := hSw; go_simp; (try with_reducible rfl); done)
                  try simp only [List.getElem_toArray, List.getElem_cons_zero, List.getElem_cons_succ, Act.put, List.setIfInBounds_toArray, List.set_cons_zero, List.set_cons_succ]
                  refine wpAnyH_take (i := 14) (oi := _) (v := ?_) rfl (by kernel_rfl) (by kernel_rfl) (by kernel_rfl) (fun _ _ _ h => h) (Or.inl ⟨by kernel_rfl, ?_⟩) (by assumption) ?_
                  rotate_left 1
                  focus (intro wq hSw; (try dsimp only at hSw); obtain ⟨s0, s1, s2, s3, s4, s5, s6, s7, s8⟩ := hSw; go_simp; (try with_reducible rfl); done)
                  try simp only [List.getElem_toArray, List.getElem_cons_zero, List.getElem_cons_succ, Act.put, List.setIfInBounds_toArray, List.set_cons_zero, List.set_cons_succ]
                  refine wpAnyH_ready (rs := [15]) (by kernel_rfl) (by simp) ?_
                  refine AllReadyH.cons (o := _) rfl (fun K hK => ?_) AllReadyH.nil
                  rw [if_pos (by kernel_rfl)]
                  go_simp
                  (go_at_call 18; (with_reducible refine (HSG.out _ hHeld.2.2.2.2.2.2.2.2.out.b.at_).mono ?_); rintro e z5 ⟨rfl, q⟩)
                  first | refine hK.out _ _ ?_ (fun hHeld => ?_) | (go_wp2_with fail; refine hK.out _ _ ?_ (fun hHeld => ?_))
                  · exact HS.out _ (hHeld.2.2.2.2.2.2.2.2.out.keep q)
                  clear hK K
                  try simp only [List.getElem_toArray, List.getElem_cons_zero, List.getElem_cons_succ, Act.put, List.setIfInBounds_toArray, List.set_cons_zero, List.set_cons_succ]
                  refine wpAnyH_take (i := 16) (oi := _) (v := ?_) rfl (by kernel_rfl) (by kernel_rfl) (by kernel_rfl) (fun _ _ _ h => h) (Or.inl ⟨by kernel_rfl, ?_⟩) (by assumption) ?_
                  rotate_left 1
                  focus (intro wq hSw; (try dsimp only at hSw); obtain ⟨s0, s1, s2, s3, s4, s5, s6, s7, s8⟩ := hSw; go_simp; (try with_reducible rfl); done)
                  try simp only [List.getElem_toArray, List.getElem_cons_zero, List.getElem_cons_succ, Act.put, List.setIfInBounds_toArray, List.set_cons_zero, List.set_cons_succ]
                  refine wpAnyH_take (i := 17) (oi := _) (v := ?_) rfl (by kernel_rfl) (by kernel_rfl) (by kernel_rfl) (fun _ _ _ h => h) (Or.inl ⟨by kernel_rfl, ?_⟩) (by assumption) ?_
                  rotate_left 1
                  focus (intro wq hSw; (try dsimp only at hSw); obtain ⟨s0, s1, s2, s3, s4, s5, s6, s7, s8⟩ := hSw; go_simp; (try with_reducible rfl); done)
                  try simp only [List.getElem_toArray, List.getElem_cons_zero, List.getElem_cons_succ, Act.put, List.setIfInBounds_toArray, List.set_cons_zero, List.set_cons_succ]
                  refine wpAnyH_take (i := 18) (oi := _) (v := ?_) rfl (by kernel_rfl) (by kernel_rfl) (by kernel_rfl) (fun _ _ _ h => h) (Or.inl ⟨by kernel_rfl, ?_⟩) (by assumption) ?_
                  rotate_left 1
                  focus (intro wq hSw; (try dsimp only at hSw); obtain ⟨s0, s1, s2, s3, s4, s5, s6, s7, s8⟩ := hSw; go_simp; (try with_reducible rfl); done)
                  try simp only [List.getElem_toArray, List.getElem_cons_zero, List.getElem_cons_succ, Act.put, List.setIfInBounds_toArray, List.set_cons_zero, List.set_cons_succ]
                  refine wpAnyH_take (i := 22) (oi := _) (v := ?_) rfl (by kernel_rfl) (by kernel_rfl) (by kernel_rfl) (fun _ _ _ h => h) (Or.inl ⟨by kernel_rfl, ?_⟩) (by assumption) ?_
                  rotate_left 1
                  focus (intro wq hSw; (try dsimp only at hSw); obtain ⟨s0, s1, s2, s3, s4, s5, s6, s7, s8⟩ := hSw; go_simp; (try with_reducible rfl); done)
                  try simp only [List.getElem_toArray, List.getElem_cons_zero, List.getElem_cons_succ, Act.put, List.setIfInBounds_toArray, List.set_cons_zero, List.set_cons_succ]
                  refine wpAnyH_ready (rs := [19]) (by kernel_rfl) (by simp) ?_
                  refine AllReadyH.cons (o := _) rfl (fun K hK => ?_) AllReadyH.nil
                  rw [if_pos (by kernel_rfl)]
                  go_simp
                  (go_at_call 22; (with_reducible refine (HWK.out _).mono ?_); rintro e z6 ⟨co6, cc6, rfl, HW, q⟩)
                  first | refine hK.out _ _ ?_ (fun hHeld => ?_) | (go_wp2_with fail; refine hK.out _ _ ?_ (fun hHeld => ?_))
                  · exact HS.out _ (hHeld.2.2.2.2.2.2.2.2.out.keep q)
                  clear hK K
                  try simp only [List.getElem_toArray, List.getElem_cons_zero, List.getElem_cons_succ, Act.put, List.setIfInBounds_toArray, List.set_cons_zero, List.set_cons_succ]
                  refine wpAnyH_ready (rs := [20]) (by kernel_rfl) (by simp) ?_
                  refine AllReadyH.cons (o := _) rfl (fun K hK => ?_) AllReadyH.nil
                  rw [if_pos (by kernel_rfl)]
                  go_simp
                  (go_at_call 18; (with_reducible refine (HS1.out _ _ _ hHeld.2.2.2.2.2.2.2.2.out.b.at_ HW.out).mono ?_); rintro e z7 ⟨rfl, q⟩)
                  first | refine hK.out _ _ ?_ (fun hHeld => ?_) | (go_wp2_with fail; refine hK.out _ _ ?_ (fun hHeld => ?_))
                  · exact HS.out _ (hHeld.2.2.2.2.2.2.2.2.out.keep q)
                  clear hK K
                  try simp only [List.getElem_toArray, List.getElem_cons_zero, List.getElem_cons_succ, Act.put, List.setIfInBounds_toArray, List.set_cons_zero, List.set_cons_succ]
                  refine wpAnyH_take (i := 21) (oi := _) (v := ?_) rfl (by kernel_rfl) (by kernel_rfl) (by kernel_rfl) (fun _ _ _ h => h) (Or.inl ⟨by kernel_rfl, ?_⟩) (by assumption) ?_
                  rotate_left 1
                  focus (intro wq hSw; (try dsimp only at hSw); obtain ⟨s0, s1, s2, s3, s4, s5, s6, s7, s8⟩ := hSw; go_simp; (try with_reducible rfl); done)
                  try simp only [List.getElem_toArray, List.getElem_cons_zero, List.getElem_cons_succ, Act.put, List.setIfInBounds_toArray, List.set_cons_zero, List.set_cons_succ]
                  refine wpAnyH_ready (rs := [23]) (by kernel_rfl) (by simp) ?_
                  refine AllReadyH.cons (o := _) rfl (fun K hK => ?_) AllReadyH.nil
                  rw [if_pos (by kernel_rfl)]
                  go_simp
                  (go_at_call 11; (with_reducible refine (D2.out _ hHeld.2.2.2.2.2.2.2.2.out.b.at_).mono ?_); rintro e z8 ⟨p5, n5, c5, l5, k5, o5, m5, j5, g5, s5, rfl, HC, q⟩)
                  first | refine hK.out _ _ ?_ (fun hHeld => ?_) | (go_wp2_with fail; refine hK.out _ _ ?_ (fun hHeld => ?_))
                  · exact HS.out _ (hHeld.2.2.2.2.2.2.2.2.out.keep q)
                  clear hK K
                  try simp only [List.getElem_toArray, List.getElem_cons_zero, List.getElem_cons_succ, Act.put, List.setIfInBounds_toArray, List.set_cons_zero, List.set_cons_succ]
                  refine wpAnyH_ready (rs := [24]) (by kernel_rfl) (by simp) ?_
                  refine AllReadyH.cons (o := _) rfl (fun K hK => ?_) AllReadyH.nil
                  rw [if_pos (by kernel_rfl)]
                  go_simp
                  (go_at_call 22; (with_reducible refine (HWK.out _).mono ?_); rintro e z9 ⟨co9, cc9, rfl, HW, q⟩; have HC := Lib.hid (⟨HC.out.1, HC.out.2.keep q⟩ : _ ∧ _))
                  first | refine hK.out _ _ ?_ (fun hHeld => ?_) | (go_wp2_with fail; refine hK.out _ _ ?_ (fun hHeld => ?_))
                  · exact HS.out _ (hHeld.2.2.2.2.2.2.2.2.out.keep q)
                  clear hK K
                  try simp only [List.getElem_toArray, List.getElem_cons_zero, List.getElem_cons_succ, Act.put, List.setIfInBounds_toArray, List.set_cons_zero, List.set_cons_succ]
                  refine wpAnyH_ready (rs := [25]) (by kernel_rfl) (by simp) ?_
                  refine AllReadyH.cons (o := _) rfl (fun K hK => ?_) AllReadyH.nil
                  rw [if_pos (by kernel_rfl)]
                  go_simp
                  (go_at_call 13; (with_reducible refine (HA1.out _ _ _ _ _ _ _ _ _ _ _ _ _ HC.out.1 HC.out.2 HW.out).mono ?_); rintro e z10 ⟨rfl, q⟩)
                  first | refine hK.out _ _ ?_ (fun hHeld => ?_) | (go_wp2_with fail; refine hK.out _ _ ?_ (fun hHeld => ?_))
                  · exact HS.out _ (hHeld.2.2.2.2.2.2.2.2.out.keep q)
                  clear hK K
                  try simp only [List.getElem_toArray, List.getElem_cons_zero, List.getElem_cons_succ, Act.put, List.setIfInBounds_toArray, List.set_cons_zero, List.set_cons_succ]
                  refine wpAnyH_take (i := 26) (oi := _) (v := ?_) rfl (by kernel_rfl) (by kernel_rfl) (by kernel_rfl) (fun _ _ _ h => h) (Or.inl ⟨by kernel_rfl, ?_⟩) (by assumption) ?_
                  rotate_left 1
                  focus (intro wq hSw; (try dsimp only at hSw); obtain ⟨s0, s1, s2, s3, s4, s5, s6, s7, s8⟩ := hSw; go_simp; (try with_reducible rfl); done)
                  try simp only [List.getElem_toArray, List.getElem_cons_zero, List.getElem_cons_succ, Act.put, List.setIfInBounds_toArray, List.set_cons_zero, List.set_cons_succ]
                  refine wpAnyH_take (i := 27) (oi := _) (v := ?_) rfl (by kernel_rfl) (by kernel_rfl) (by kernel_rfl) (fun _ _ _ h => h) (Or.inl ⟨by kernel_rfl, ?_⟩) (by assumption) ?_
                  rotate_left 1
                  focus (intro wq hSw; (try dsimp only at hSw); obtain ⟨s0, s1, s2, s3, s4, s5, s6, s7, s8⟩ := hSw; go_simp; (try with_reducible rfl); done)
                  try simp only [List.getElem_toArray, List.getElem_cons_zero, List.getElem_cons_succ, Act.put, List.setIfInBounds_toArray, List.set_cons_zero, List.set_cons_succ]
                  refine wpAnyH_take (i := 28) (oi := _) (v := ?_) rfl (by kernel_rfl) (by kernel_rfl) (by kernel_rfl) (fun _ _ _ h => h) (Or.inl ⟨by kernel_rfl, ?_⟩) (by assumption) ?_
                  rotate_left 1
                  focus (intro wq hSw; (try dsimp only at hSw); obtain ⟨s0, s1, s2, s3, s4, s5, s6, s7, s8⟩ := hSw; go_simp; (try with_reducible rfl); done)
                  try simp only [List.getElem_toArray, List.getElem_cons_zero, List.getElem_cons_succ, Act.put, List.setIfInBounds_toArray, List.set_cons_zero, List.set_cons_succ]
                  refine wpAnyH_take (i := 29) (oi := _) (v := ?_) rfl (by kernel_rfl) (by kernel_rfl) (by kernel_rfl) (fun _ _ _ h => h) (Or.inl ⟨by kernel_rfl, ?_⟩) (by assumption) ?_
                  rotate_left 1
                  focus (intro wq hSw; (try dsimp only at hSw); obtain ⟨s0, s1, s2, s3, s4, s5, s6, s7, s8⟩ := hSw; go_simp; (try with_reducible rfl); done)
                  try simp only [List.getElem_toArray, List.getElem_cons_zero, List.getElem_cons_succ, Act.put, List.setIfInBounds_toArray, List.set_cons_zero, List.set_cons_succ]
                  refine wpAnyH_ready (rs := [30]) (by kernel_rfl) (by simp) ?_
                  refine AllReadyH.cons (o := _) rfl (fun K hK => ?_) AllReadyH.nil
                  rw [if_pos (by kernel_rfl)]
                  go_simp
                  (go_at_call 9; (with_reducible refine (HAW.out _).mono ?_); rintro e z11 ⟨rfl, q⟩)
                  first | refine hK.out _ _ ?_ (fun hHeld => ?_) | (go_wp2_with fail; refine hK.out _ _ ?_ (fun hHeld => ?_))
                  · exact HS.out _ (hHeld.2.2.2.2.2.2.2.2.out.keep q)
                  clear hK K
                  try simp only [List.getElem_toArray, List.getElem_cons_zero, List.getElem_cons_succ, Act.put, List.setIfInBounds_toArray, List.set_cons_zero, List.set_cons_succ]
                  refine wpAnyH_take (i := 31) (oi := _) (v := ?_) rfl (by kernel_rfl) (by kernel_rfl) (by kernel_rfl) (fun _ _ _ h => h) (Or.inl ⟨by kernel_rfl, ?_⟩) (by assumption) ?_
                  rotate_left 1
                  focus (intro wq hSw; (try dsimp only at hSw); obtain ⟨s0, s1, s2, s3, s4, s5, s6, s7, s8⟩ := hSw; go_simp; (try with_reducible rfl); done)
                  try simp only [List.getElem_toArray, List.getElem_cons_zero, List.getElem_cons_succ, Act.put, List.setIfInBounds_toArray, List.set_cons_zero, List.set_cons_succ]
                  refine wpAnyH_take (i := 32) (oi := _) (v := ?_) rfl (by kernel_rfl) (by kernel_rfl) (by kernel_rfl) (fun _ _ _ h => h) (Or.inl ⟨by kernel_rfl, ?_⟩) (by assumption) ?_
                  rotate_left 1
                  focus (intro wq hSw; (try dsimp only at hSw); obtain ⟨s0, s1, s2, s3, s4, s5, s6, s7, s8⟩ := hSw; go_simp; (try with_reducible rfl); done)
                  try simp only [List.getElem_toArray, List.getElem_cons_zero, List.getElem_cons_succ, Act.put, List.setIfInBounds_toArray, List.set_cons_zero, List.set_cons_succ]
                  refine wpAnyH_done (by kernel_rfl) ?_ _
                  go_wp2
                  go_returns
                  exact ⟨rfl, hHeld.2.2.2.2.2.2.2.2.out.a.bw⟩
end Go.Proofs.Ytkhnoikdfelheaa
