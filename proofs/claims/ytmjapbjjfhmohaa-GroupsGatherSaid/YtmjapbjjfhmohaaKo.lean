/- G23, W1, C1, C2, C3, W2 in one. -/
import Derived.Test.YtmjapbjjfhmohaaKm
import Derived.Test.YtmjapbjjfhmohaaKn
import Derived.Test.YtmjapbjjfhmohaaKa
import Derived.Test.YtmjapbjjfhmohaaKd
import Derived.Test.YtmjapbjjfhmohaaKc
namespace Go.Proofs.Ytmjapbjjfhmohaa
set_option linter.unusedVariables false
set_option linter.unusedSimpArgs false
open Go.ChangeShapes Go.WideShapes Go.ChangeAt Go.RowKit
/-- What Before and Behind tell. -/
def BeOut (F : Fv) (i st : Int) (e : Ending) : Prop := ∃ j ok, e = .returned (.tuple #[.int .i64 j, .bool ok]) ∧ (ok = true → Nr F i st j true ∧ InR j) ∧ (ok = false → ∀ k, i * st < k * st → InR k → gr F k = [])
set_option maxHeartbeats 1000000 in
theorem behind_any (F : Fv) (i : Int) (w : World) (hF : F.At w) (ok : F.Ok) (hi : InR i) :
    Calls Try.prog 46 #[F.v, .int .i64 i] w fun e w' => BeOut F i 1 e ∧ Hid (Below w.heap.size w w') := by
  obtain ⟨hi1, hi2⟩ := hi
  have HNR := Lib.hid (fun W h => near_up F i W h ok (by omega) (by omega))
  clear ok
  obtain ⟨P, N, co, cn, cc, oo, on, oc, cs, os⟩ := F
  have LC : Hid (cs.length = cn) := Lib.hid hF.core.len
  have LO : Hid (os.length = on) := Lib.hid hF.odd.len
  have hmc : cn ≤ 9223372036854775807 := Nat.le_trans hF.core.le hF.core.top
  have hmo : on ≤ 9223372036854775807 := Nat.le_trans hF.odd.le hF.odd.top
  obtain ⟨b, hb⟩ : ∃ b, w.heap.size = b := ⟨_, rfl⟩
  obtain ⟨wb, hwb⟩ : ∃ wb, w.alloc (.cells #[.int .i64 P, .int .i64 N, .slice co cn cc, .slice oo on oc] 25) = wb := ⟨_, rfl⟩
  have HBB : Hid (Fbox ⟨P, N, co, cn, cc, oo, on, oc, cs, os⟩ w wb b) := Lib.hid (by rw [← hwb, ← hb]; exact fbox_new hF)
  clear hF
  show Calls Try.prog 46 #[.agg #[.int .i64 P, .int .i64 N, .slice co cn cc, .slice oo on oc], .int .i64 i] w _
  go_enter Try.func46, Try.ntmps46
  go_upto_region 1 with fail
  clear hwb hb
  have e0 : wb.cell? ⟨b, 0, none⟩ = some (.int .i64 P) := HBB.out.c0
  have e1 : wb.cell? ⟨b, 1, none⟩ = some (.int .i64 N) := HBB.out.c1
  have e2 : wb.cell? ⟨b, 2, none⟩ = some (.slice co cn cc) := HBB.out.c2
  have e3 : wb.cell? ⟨b, 3, none⟩ = some (.slice oo on oc) := HBB.out.c3
  have HNR : Hid (∀ W, Fv.At ⟨P, N, co, cn, cc, oo, on, oc, cs, os⟩ W → Calls Try.prog 70 #[.agg #[.int .i64 P, .int .i64 N, .slice co cn cc, .slice oo on oc], .int .i64 i, .int .i64 1] W fun e w' => NearOut ⟨P, N, co, cn, cc, oo, on, oc, cs, os⟩ i 1 e ∧ Hid (Below W.heap.size W w')) := HNR
  by_cases h1 : 1099511627776 ≤ i
  · go_wp2
    go_returns
    exact ⟨⟨0, false, rfl, (fun z => by cases z), fun _ k k1 k2 => by have := k2.1; have := k2.2; omega⟩, Lib.hid HBB.out.bw⟩
  · have hmm : max i (-1099511627777) = i := by omega
    go_wp2_with fail
    (with_reducible refine (HNR.out _ HBB.out.at_).mono ?_)
    rintro e w2 ⟨⟨j, ok, rfl, hn⟩, q⟩
    have HN := Lib.hid hn
    have HBW := Lib.hid (HBB.out.bw.trans (q.out.mono HBB.out.bw.size))
    have hj1 := hn.low
    have hj2 := hn.high
    clear hn q
    cases ok
    · go_wp2
      go_returns
      exact ⟨⟨0, false, rfl, (fun z => by cases z), fun _ k k1 _ => HN.out.no rfl k k1⟩, HBW⟩
    · by_cases h2 : 1099511627776 < j
      · go_wp2
        go_returns
        exact ⟨⟨0, false, rfl, (fun z => by cases z), fun _ k k1 k2 => (HN.out.yes rfl).2.2 k k1 (by have := k2.1; have := k2.2; omega)⟩, HBW⟩
      · have HJ : Hid (InR j) := Lib.hid (by have := (HN.out.yes rfl).1; exact ⟨by omega, by omega⟩)
        go_wp2
        go_returns
        exact ⟨⟨j, true, rfl, (fun _ => ⟨HN.out, HJ.out⟩), fun z => by cases z⟩, HBW⟩
/-- Business weeks, with exceptions. -/
abbrev weeksF (P : Int) (os : List Gr) (co : Option Addr) (cc : Nat) (oo : Option Addr) (oc : Nat) : Fv := ⟨P, 1, co, 1, cc, oo, os.length, oc, [[(0, 4)]], os⟩
abbrev aloneF (oo : Option Addr) (oc : Nat) : Fv := ⟨0, 0, none, 0, 0, oo, 1, oc, [], [(3, [(5, 6)])]⟩
section
variable (co : Option Addr) (cc : Nat) (oo : Option Addr) (oc : Nat)
theorem good04 : Good [(0, 4)] := by simp [Good, Rt]
theorem good811 : Good [(8, 11)] := by simp [Good, Rt]
theorem good56 : Good [(5, 6)] := by simp [Good, Rt]
theorem ris7 : RisOk [[(0, 4)]] 7 := ⟨by simp, fun a ha b hb s hs u hu => by simp at ha hb; subst ha hb; simp at hs hu; subst hs hu; simp⟩
theorem ris4 : ¬ RisOk [[(0, 4)]] 4 := fun h => by have := h.turn [(0, 4)] (by simp) [(0, 4)] (by simp) (0, 4) (by simp) (0, 4) (by simp); simp at this
theorem meas7 (os : List Gr) : (weeksF 7 os co cc oo oc).Meas := .inr ⟨(show (1 : Int) ≠ 0 by decide), rfl, (show (1 : Int) ≤ 7 by decide), (show (7 : Int) ≤ 1099511627776 by decide)⟩
theorem rt_weeks : (weeksF 7 [] co cc oo oc).Rt := by
  refine ⟨meas7 co cc oo oc [], fun l hl => ?_, oddOk_nil, ris7, fun i => ⟨fun h => ?_, fun h => ?_⟩⟩
  · simp at hl; rw [hl]; exact good04
  · exact absurd h (Nat.not_lt_zero _)
  · exact absurd h (Nat.not_lt_zero _)
theorem rt_bad : ¬ (weeksF 4 [] co cc oo oc).Rt := fun h => ris4 h.ris
theorem odd1 : OddOk [(1, [(8, 11)])] := ⟨fun o ho => by simp at ho; subst ho; exact ⟨good811, by decide, by decide⟩, by simp⟩
theorem odd3 : OddOk [(3, [(5, 6)])] := ⟨fun o ho => by simp at ho; subst ho; exact ⟨good56, by decide, by decide⟩, by simp⟩
theorem gr_w0 (os : List Gr) (h : exc os 0 = none) : gr (weeksF 7 os co cc oo oc) 0 = [(0, 4)] := by
  unfold gr; rw [h]; show cg [[(0, 4)]] 7 1 0 = _; decide
theorem gr_wm : gr (weeksF 7 [] co cc oo oc) (-1) = [(-7, -3)] := by
  show (match exc [] (-1) with | some l => l | none => cg [[(0, 4)]] 7 1 (-1)) = _
  decide
theorem gr_s1 : gr (weeksF 7 [(1, [(8, 11)])] co cc oo oc) 1 = [(8, 11)] := by
  show (match exc [(1, [(8, 11)])] 1 with | some l => l | none => cg [[(0, 4)]] 7 1 1) = _
  decide
theorem gr_s2 : gr (weeksF 7 [(1, [(8, 11)])] co cc oo oc) 2 = [(14, 18)] := by
  show (match exc [(1, [(8, 11)])] 2 with | some l => l | none => cg [[(0, 4)]] 7 1 2) = _
  decide
theorem gr_s0 : gr (weeksF 7 [(1, [(8, 11)])] co cc oo oc) 0 = [(0, 4)] := by
  show (match exc [(1, [(8, 11)])] 0 with | some l => l | none => cg [[(0, 4)]] 7 1 0) = _
  decide
theorem gr_sT : gr (weeksF 7 [(1, [(8, 11)])] co cc oo oc) 1099511627776 = [(7696581394432, 7696581394436)] := by
  show (match exc [(1, [(8, 11)])] 1099511627776 with | some l => l | none => cg [[(0, 4)]] 7 1 1099511627776) = _
  decide
theorem gr_a3 : gr (aloneF oo oc) 3 = [(5, 6)] := by
  show (match exc [(3, [(5, 6)])] 3 with | some l => l | none => cg [] 0 0 3) = _
  decide
theorem gr_aN (k : Int) (h : k ≠ 3) : gr (aloneF oo oc) k = [] := by
  have e : exc [(3, [(5, 6)])] k = none := exc_none.2 (fun o ho => by simp at ho; subst ho; exact fun e => h e.symm)
  show (match exc [(3, [(5, 6)])] k with | some l => l | none => cg [] 0 0 k) = []
  rw [e]; rfl
theorem rt_some : (weeksF 7 [(1, [(8, 11)])] co cc oo oc).Rt := by
  refine ⟨meas7 co cc oo oc _, fun l hl => ?_, odd1, ris7, fun i => ⟨fun h j hj => ?_, fun h j hj => ?_⟩⟩
  · simp at hl; rw [hl]; exact good04
  · have hi : i = 0 := by simpa using h
    subst hi
    obtain ⟨a, b, c⟩ := hj.yes rfl
    simp at a
    have h0 := gr_s0 co cc oo oc
    obtain rfl : j = 0 := by
      by_cases e : j = 0
      · exact e
      · have := c 0 (by simp) (by omega)
        rw [h0] at this; cases this
    rw [h0]
    exact ⟨fit_good good04, fun _ => (show decide (hullB [(0, 4)] < hullA [(8, 11)]) = true by decide)⟩
  · have hi : i = 0 := by simpa using h
    subst hi
    obtain ⟨a, b, c⟩ := hj.yes rfl
    simp at a
    have h2 := gr_s2 co cc oo oc
    obtain rfl : j = 2 := by
      by_cases e : j = 2
      · exact e
      · have := c 2 (by simp) (by omega)
        rw [h2] at this; cases this
    rw [h2]
    exact ⟨fit_good (by simp [Good, Rt]), fun _ => (show decide (hullB [(8, 11)] < hullA [(14, 18)]) = true by decide)⟩
theorem rt_alone : (aloneF oo oc).Rt := by
  refine ⟨.inl ⟨rfl, rfl, rfl⟩, fun l hl => (by cases hl), odd3, ⟨by simp, fun a ha => by cases ha⟩, fun i => ⟨fun h j hj => ?_, fun h j hj => ?_⟩⟩
  · have hi : i = 0 := by simpa using h
    subst hi
    obtain ⟨a, b, c⟩ := hj.yes rfl
    simp at a
    exact absurd (gr_aN oo oc j (by omega)) b
  · have hi : i = 0 := by simpa using h
    subst hi
    obtain ⟨a, b, c⟩ := hj.yes rfl
    simp at a
    exact absurd (gr_aN oo oc j (by omega)) b
end
theorem info34 : (Try.prog.info? 34).map (fun i => (i.zero, i.size, i.bytes)) = some (some (.slice none 0 0), 1, 24) := by kernel_rfl
theorem info52 : (Try.prog.info? 52).map (fun i => (i.zero, i.size, i.bytes)) = some (some (.agg #[.int .i64 0, .slice none 0 0]), 2, 32) := by kernel_rfl
/-- The values of a slice of sets. -/
structure VsCo (w : World) (vs : List Value) (ls : List (List Sp)) : Prop where
  len : vs.length = ls.length
  at_ : ∀ i (h : i < ls.length), ∃ o k d, vs[i]? = some (.slice o k d) ∧ SpAt w o k d ls[i]
theorem VsCo.keep {w w' : World} {vs : List Value} {ls : List (List Sp)} (h : VsCo w vs ls) (k : Below w.heap.size w w') : VsCo w' vs ls :=
  ⟨h.len, fun i hi => by obtain ⟨o, m, d, h1, h2⟩ := h.at_ i hi; exact ⟨o, m, d, h1, h2.keep k⟩⟩
theorem VsCo.one {w : World} {vs : List Value} {ls : List (List Sp)} (h : VsCo w vs ls) : ∀ u ∈ vs, u.oneCell' = true := by
  intro u hu
  obtain ⟨i, hi, rfl⟩ := List.getElem_of_mem hu
  obtain ⟨o, k, d, h1, _⟩ := h.at_ i (by rw [← h.len]; exact hi)
  rw [List.getElem?_eq_getElem hi] at h1
  rw [Option.some.inj h1]; rfl
theorem co_vals {w : World} {a : Addr} {n c : Nat} {ls : List (List Sp)} (h : CoAt w (some a) n c ls) : ∃ vs, VsCo w vs ls ∧ ∀ j u, vs[j]? = some u → w.cell? (a.add j) = some u := by
  by_cases h0 : n = 0
  · obtain rfl : ls = [] := List.eq_nil_of_length_eq_zero (by rw [h.len, h0])
    exact ⟨[], ⟨rfl, fun i hi => absurd hi (Nat.not_lt_zero _)⟩, fun j u hu => by simp at hu⟩
  · obtain ⟨b, p, e, hc⟩ := h.here (by omega)
    cases e
    have each : ∀ i : Nat, ∃ u : Value, ∀ hi : i < ls.length, w.cell? ⟨b, p + i, none⟩ = some u ∧ ∃ o k d, u = .slice o k d ∧ SpAt w o k d ls[i] := by
      intro i
      by_cases hi : i < ls.length
      · obtain ⟨o, k, d, h1, h2⟩ := hc i hi
        exact ⟨_, fun _ => ⟨h1, o, k, d, rfl, h2⟩⟩
      · exact ⟨.slice none 0 0, fun q => absurd q hi⟩
    obtain ⟨U, hU⟩ := Classical.axiomOfChoice each
    refine ⟨(List.range ls.length).map U, ⟨by simp, fun i hi => ?_⟩, fun j u hu => ?_⟩
    · obtain ⟨h1, o, k, d, h2, h3⟩ := hU i hi
      exact ⟨o, k, d, by simp [hi, h2], h3⟩
    · have hj : j < ls.length := by
        have := (List.getElem?_eq_some_iff.1 hu).1
        simpa using this
      rw [add_off, (hU j hj).1]
      simpa [hj] using hu
theorem own_co {w : World} {B n : Nat} {v : Value} {vs : List Value} {ls : List (List Sp)} (h : w.ownsRow B 34 1 v n vs) (hl : ls.length = n) (hv : VsCo w vs ls) : ∃ ao c, v = .slice ao n c ∧ CoAt w ao n c ls := by
  have hc := h
  rcases h.2 with ⟨rfl, h0⟩ | ⟨g, cap, cur, rfl, h2, h3, h4, h5, h6⟩
  · obtain rfl : ls = [] := List.eq_nil_of_length_eq_zero (by omega)
    subst h0
    exact ⟨none, 0, rfl, rfl, Nat.le_refl _, by omega, fun _ => ⟨rfl, rfl⟩, fun h => absurd h (Nat.lt_irrefl _)⟩
  · refine ⟨some ⟨g, 0, none⟩, cap, rfl, hl, h4, by unfold maxLen at h5; omega, (by intro e; cases e), fun _ => ⟨g, 0, rfl, fun i hi => ?_⟩⟩
    obtain ⟨o, k, d, q1, q2⟩ := hv.at_ i hi
    have z1 := hc.cells (g := g) rfl i _ q1
    rw [add_off] at z1
    exact ⟨o, k, d, z1, q2⟩
/-- The values of a slice of exceptions. -/
structure VsOd (w : World) (vs : List Value) (os : List Gr) : Prop where
  len : vs.length = os.length * 2
  at_ : ∀ i (h : i < os.length), vs[i * 2]? = some (.int .i64 os[i].1) ∧ (∃ o k d, vs[i * 2 + 1]? = some (.slice o k d) ∧ SpAt w o k d os[i].2) ∧ -9223372036854775808 ≤ os[i].1 ∧ os[i].1 ≤ 9223372036854775807
theorem VsOd.keep {w w' : World} {vs : List Value} {os : List Gr} (h : VsOd w vs os) (k : Below w.heap.size w w') : VsOd w' vs os :=
  ⟨h.len, fun i hi => by obtain ⟨h1, ⟨o, m, d, h2, h3⟩, h4⟩ := h.at_ i hi; exact ⟨h1, ⟨o, m, d, h2, h3.keep k⟩, h4⟩⟩
theorem VsOd.one {w : World} {vs : List Value} {os : List Gr} (h : VsOd w vs os) : ∀ u ∈ vs, u.oneCell' = true := by
  intro u hu
  obtain ⟨j, hj, rfl⟩ := List.getElem_of_mem hu
  have hl := h.len
  obtain ⟨h1, ⟨o, k, d, h2, _⟩, _⟩ := h.at_ (j / 2) (by omega)
  rcases Nat.mod_two_eq_zero_or_one j with e | e
  · rw [show j / 2 * 2 = j by omega, List.getElem?_eq_getElem hj] at h1
    rw [Option.some.inj h1]; rfl
  · rw [show j / 2 * 2 + 1 = j by omega, List.getElem?_eq_getElem hj] at h2
    rw [Option.some.inj h2]; rfl
theorem od_vals {w : World} {a : Addr} {n c : Nat} {os : List Gr} (h : OdAt w (some a) n c os) : ∃ vs, VsOd w vs os ∧ ∀ j u, vs[j]? = some u → w.cell? (a.add j) = some u := by
  by_cases h0 : n = 0
  · obtain rfl : os = [] := List.eq_nil_of_length_eq_zero (by rw [h.len, h0])
    exact ⟨[], ⟨rfl, fun i hi => absurd hi (Nat.not_lt_zero _)⟩, fun j u hu => by simp at hu⟩
  · obtain ⟨b, p, e, hc⟩ := h.here (by omega)
    cases e
    have each : ∀ j : Nat, ∃ u : Value, ∀ hj : j < os.length * 2, w.cell? ⟨b, p + j, none⟩ = some u := by
      intro j
      by_cases hj : j < os.length * 2
      · obtain ⟨h1, ⟨o, k, d, h2, _⟩, _⟩ := hc (j / 2) (by omega)
        rcases Nat.mod_two_eq_zero_or_one j with e | e
        · rw [show j / 2 * 2 = j by omega] at h1; exact ⟨_, fun _ => h1⟩
        · rw [Nat.add_assoc, show j / 2 * 2 + 1 = j by omega] at h2; exact ⟨_, fun _ => h2⟩
      · exact ⟨.slice none 0 0, fun q => absurd q hj⟩
    obtain ⟨U, hU⟩ := Classical.axiomOfChoice each
    refine ⟨(List.range (os.length * 2)).map U, ⟨by simp, fun i hi => ?_⟩, fun j u hu => ?_⟩
    · obtain ⟨h1, ⟨o, k, d, h2, h3⟩, h4⟩ := hc i hi
      refine ⟨?_, ⟨o, k, d, ?_, h3⟩, h4⟩
      · simp [show i * 2 < os.length * 2 by omega]
        exact (Option.some.inj ((hU (i * 2) (by omega)).symm.trans h1))
      · simp [show i * 2 + 1 < os.length * 2 by omega]
        exact (Option.some.inj ((hU (i * 2 + 1) (by omega)).symm.trans (by rw [← Nat.add_assoc]; exact h2)))
    · have hj : j < os.length * 2 := by
        have := (List.getElem?_eq_some_iff.1 hu).1
        simpa using this
      rw [add_off, hU j hj]
      simpa [hj] using hu
theorem own_od {w : World} {B n : Nat} {v : Value} {vs : List Value} {os : List Gr} (h : w.ownsRow B 52 2 v n vs) (hl : os.length = n) (hv : VsOd w vs os) : ∃ ao c, v = .slice ao n c ∧ OdAt w ao n c os := by
  have hc := h
  rcases h.2 with ⟨rfl, h0⟩ | ⟨g, cap, cur, rfl, h2, h3, h4, h5, h6⟩
  · obtain rfl : os = [] := List.eq_nil_of_length_eq_zero (by omega)
    subst h0
    exact ⟨none, 0, rfl, rfl, Nat.le_refl _, by omega, fun _ => ⟨rfl, rfl⟩, fun h => absurd h (Nat.lt_irrefl _)⟩
  · refine ⟨some ⟨g, 0, none⟩, cap, rfl, hl, h4, by unfold maxLen at h5; omega, (by intro e; cases e), fun _ => ⟨g, 0, rfl, fun i hi => ?_⟩⟩
    obtain ⟨q0, ⟨o, k, d, q1, q2⟩, q3⟩ := hv.at_ i hi
    have z0 := hc.cells (g := g) rfl _ _ q0
    have z1 := hc.cells (g := g) rfl _ _ q1
    rw [add_off] at z0 z1
    exact ⟨z0, ⟨o, k, d, by rw [Nat.add_assoc]; exact z1, q2⟩, q3⟩
set_option maxHeartbeats 1000000 in
theorem cloneCo_any (ao : Option Addr) (n c : Nat) (ls : List (List Sp)) (hn : n ≤ 1000000) (w0 w : World) (hl : CoAt w0 ao n c ls) (hk : Below w0.heap.size w0 w) :
    Calls Try.prog 62 #[.slice ao n c] w fun e w' => ∃ v vs, e = .returned v ∧ w'.ownsRow w.heap.size 34 1 v n vs ∧ VsCo w0 vs ls ∧ Below w.heap.size w w' := by
  obtain ⟨i0, hi, hz0, hz1, hz2⟩ := info_parts info34
  have q22 : ∀ (w : World) (a : Option Addr) (n c n' c' : Nat), (binOp .eql 22 (.slice a n c) (.slice none n' c')).run Try.prog w = .ok (.bool a.isNone) w := fun w a n c n' c' => Lib.run_eql_slice_nil w _ _ a n c n' c' Try.underlying22
  have LN := hl.len
  cases ao with
  | none =>
    obtain ⟨rfl, rfl⟩ := hl.bare rfl
    obtain rfl : ls = [] := List.eq_nil_of_length_eq_zero (by omega)
    clear hl
    go_enter Try.func62, Try.ntmps62
    go_wp2
    go_ret
    exact ⟨_, _, rfl, World.ownsRow_nil _ _ _ _, ⟨rfl, fun i hi => absurd hi (Nat.not_lt_zero _)⟩, Below.refl _ _⟩
  | some a =>
    obtain ⟨vs, hv, hc⟩ := co_vals hl
    have HN := Lib.hid (fun j u h => cell_keep (hc j u h) hk)
    have HV := Lib.hid hv
    have HLV : Hid (vs.length = n) := Lib.hid (by rw [hv.len, LN])
    clear hl hc hv LN
    go_enter Try.func62, Try.ntmps62
    go_wp2_with (at_builtin; refine wpList_append_own _ rfl _ _ 22 rfl w.heap.size 34 i0 (.slice none 0 0) 1 24 Try.underlying22 hi hz0 hz1 hz2 rfl (by decide) _ _ _ rfl (World.ownsRow_made w #[] 0 (Nat.le_refl _) (Nat.zero_le _) rfl) a n c vs rfl ?qc1 ?qc2 ?qc3 ?qc4 ?qc5 ?qc6 ?_)
    case qc1 => rw [HLV.out]; simp
    case qc2 => intro j u hj; exact Lib.cell?_alloc_some _ (HN.out j u hj)
    case qc3 => exact HV.out.one
    case qc4 => unfold maxLen; omega
    case qc5 => omega
    case qc6 => simp
    intro v' w1 hown hgrow hnil
    have HB := Lib.hid (((Below.refl _ w).alloc (Nat.le_refl _) _).grown hgrow (by simp) (by intro k hk; simp [Value.ownBlock] at hk; omega))
    go_wp2
    go_ret
    exact ⟨v', vs, rfl, by simpa using hown, HV.out, HB.out⟩
set_option maxHeartbeats 1000000 in
theorem cloneOd_any (ao : Option Addr) (n c : Nat) (ls : List Gr) (hn : n ≤ 1000000) (w0 w : World) (hl : OdAt w0 ao n c ls) (hk : Below w0.heap.size w0 w) :
    Calls Try.prog 63 #[.slice ao n c] w fun e w' => ∃ v vs, e = .returned v ∧ w'.ownsRow w.heap.size 52 2 v n vs ∧ VsOd w0 vs ls ∧ Below w.heap.size w w' := by
  obtain ⟨i0, hi, hz0, hz1, hz2⟩ := info_parts info52
  have q23 : ∀ (w : World) (a : Option Addr) (n c n' c' : Nat), (binOp .eql 23 (.slice a n c) (.slice none n' c')).run Try.prog w = .ok (.bool a.isNone) w := fun w a n c n' c' => Lib.run_eql_slice_nil w _ _ a n c n' c' Try.underlying23
  have LN := hl.len
  cases ao with
  | none =>
    obtain ⟨rfl, rfl⟩ := hl.bare rfl
    obtain rfl : ls = [] := List.eq_nil_of_length_eq_zero (by omega)
    clear hl
    go_enter Try.func63, Try.ntmps63
    go_wp2
    go_ret
    exact ⟨_, _, rfl, World.ownsRow_nil _ _ _ _, ⟨rfl, fun i hi => absurd hi (Nat.not_lt_zero _)⟩, Below.refl _ _⟩
  | some a =>
    obtain ⟨vs, hv, hc⟩ := od_vals hl
    have HN := Lib.hid (fun j u h => cell_keep (hc j u h) hk)
    have HV := Lib.hid hv
    have HLV : Hid (vs.length = n * 2) := Lib.hid (by rw [hv.len, LN])
    clear hl hc hv LN
    go_enter Try.func63, Try.ntmps63
    go_wp2_with (at_builtin; refine wpList_append_own _ rfl _ _ 23 rfl w.heap.size 52 i0 (.agg #[.int .i64 0, .slice none 0 0]) 2 32 Try.underlying23 hi hz0 hz1 hz2 rfl (by decide) _ _ _ rfl (World.ownsRow_made w #[] 0 (Nat.le_refl _) (Nat.zero_le _) rfl) a n c vs rfl ?qc1 ?qc2 ?qc3 ?qc4 ?qc5 ?qc6 ?_)
    case qc1 => rw [HLV.out]
    case qc2 => intro j u hj; exact Lib.cell?_alloc_some _ (HN.out j u hj)
    case qc3 => exact HV.out.one
    case qc4 => unfold maxLen; omega
    case qc5 => omega
    case qc6 => simp
    intro v' w1 hown hgrow hnil
    have HB := Lib.hid (((Below.refl _ w).alloc (Nat.le_refl _) _).grown hgrow (by simp) (by intro k hk; simp [Value.ownBlock] at hk; omega))
    go_wp2
    go_ret
    exact ⟨v', vs, rfl, by simpa using hown, HV.out, HB.out⟩
theorem own_typed {w : World} {B e s n : Nat} {v : Value} {xs : List Value} (h : w.ownsRow B e s v n xs) {g : Nat} (hg : v.ownBlock = some g) : ∃ cur, w.heap[g]? = some (.cells cur e (0, 0)) := by
  rcases h.2 with ⟨rfl, _⟩ | ⟨g', cap, cur, rfl, _, h3, _⟩
  · simp [Value.ownBlock] at hg
  · simp [Value.ownBlock] at hg
    subst hg
    exact ⟨cur, h3⟩
/-- A row is not the block that grows. -/
def Off (w : World) (B e : Nat) (row : Option Nat) : Prop := ∀ q, row = some q → q < B ∨ ∃ cur t, w.heap[q]? = some (.cells cur t (0, 0)) ∧ t ≠ e
theorem own_off {w w' : World} {B e s n : Nat} {v : Value} {xs : List Value} {row : Option Nat} (h : w.ownsRow B e s v n xs) (hg : w.grownBy w' row) (ho : Off w B e row) : w'.ownsRow B e s v n xs := by
  refine h.kept hg ?_
  cases hv : v.ownBlock with
  | none => exact .inl rfl
  | some g =>
    refine .inr (fun hr => ?_)
    rcases ho g hr.symm with q | ⟨cur, t, h1, h2⟩
    · have := (h.lt g hv).1; omega
    · obtain ⟨cur', h3⟩ := own_typed h hv
      rw [h3] at h1
      cases h1
      exact h2 rfl
/-- A slice of sets in memory of the call's own. -/
structure CoOwn (w : World) (B : Nat) (v : Value) (n : Nat) (ls : List (List Sp)) : Prop where
  len : ls.length = n
  row : ∃ xs, w.ownsRow B 34 1 v n xs ∧ ∀ i (h : i < ls.length), ∃ u, xs[i]? = some u ∧ w.ownsRow B 50 2 u ls[i].length (spCells ls[i])
theorem CoOwn.grown {w w' : World} {B n : Nat} {v : Value} {ls : List (List Sp)} {row : Option Nat} (h : CoOwn w B v n ls) (hg : w.grownBy w' row) (h1 : Off w B 34 row) (h2 : Off w B 50 row) : CoOwn w' B v n ls := by
  obtain ⟨xs, a, b⟩ := h.row
  exact ⟨h.len, xs, own_off a hg h1, fun i hi => by obtain ⟨u, c, d⟩ := b i hi; exact ⟨u, c, own_off d hg h2⟩⟩
theorem CoOwn.keep {w w' : World} {B n : Nat} {v : Value} {ls : List (List Sp)} (h : CoOwn w B v n ls) (k : Below w.heap.size w w') : CoOwn w' B v n ls := h.grown (grown_of_below k) (fun q e => by cases e) (fun q e => by cases e)
theorem CoOwn.vs {w : World} {B n : Nat} {v : Value} {ls : List (List Sp)} (h : CoOwn w B v n ls) : ∃ ao c, v = .slice ao n c ∧ CoAt w ao n c ls := by
  obtain ⟨xs, a, b⟩ := h.row
  refine own_co a h.len ⟨by rw [a.1, h.len]; simp, fun i hi => ?_⟩
  obtain ⟨u, c, d⟩ := b i hi
  obtain ⟨ao, cp, rfl, z⟩ := own_sp rfl d
  exact ⟨ao, _, cp, c, z⟩
/-- A slice of exceptions in memory of the call's own. -/
structure OdOwn (w : World) (B : Nat) (v : Value) (n : Nat) (os : List Gr) : Prop where
  len : os.length = n
  row : ∃ xs, w.ownsRow B 52 2 v n xs ∧ ∀ i (h : i < os.length), xs[i * 2]? = some (.int .i64 os[i].1) ∧ (∃ u, xs[i * 2 + 1]? = some u ∧ w.ownsRow B 50 2 u os[i].2.length (spCells os[i].2)) ∧ -9223372036854775808 ≤ os[i].1 ∧ os[i].1 ≤ 9223372036854775807
theorem OdOwn.grown {w w' : World} {B n : Nat} {v : Value} {os : List Gr} {row : Option Nat} (h : OdOwn w B v n os) (hg : w.grownBy w' row) (h1 : Off w B 52 row) (h2 : Off w B 50 row) : OdOwn w' B v n os := by
  obtain ⟨xs, a, b⟩ := h.row
  exact ⟨h.len, xs, own_off a hg h1, fun i hi => by obtain ⟨q, ⟨u, c, d⟩, z⟩ := b i hi; exact ⟨q, ⟨u, c, own_off d hg h2⟩, z⟩⟩
theorem OdOwn.keep {w w' : World} {B n : Nat} {v : Value} {os : List Gr} (h : OdOwn w B v n os) (k : Below w.heap.size w w') : OdOwn w' B v n os := h.grown (grown_of_below k) (fun q e => by cases e) (fun q e => by cases e)
theorem OdOwn.vs {w : World} {B n : Nat} {v : Value} {os : List Gr} (h : OdOwn w B v n os) : ∃ ao c, v = .slice ao n c ∧ OdAt w ao n c os := by
  obtain ⟨xs, a, b⟩ := h.row
  refine own_od a h.len ⟨by rw [a.1, h.len], fun i hi => ?_⟩
  obtain ⟨q, ⟨u, c, d⟩, z⟩ := b i hi
  obtain ⟨ao, cp, rfl, z2⟩ := own_sp rfl d
  exact ⟨q, ⟨ao, _, cp, c, z2⟩, z⟩
theorem CoOwn.mono {w : World} {B C n : Nat} {v : Value} {ls : List (List Sp)} (h : CoOwn w B v n ls) (hb : C ≤ B) : CoOwn w C v n ls := by
  obtain ⟨xs, a, b⟩ := h.row
  exact ⟨h.len, xs, own_base a hb, fun i hi => by obtain ⟨u, c, d⟩ := b i hi; exact ⟨u, c, own_base d hb⟩⟩
theorem OdOwn.mono {w : World} {B C n : Nat} {v : Value} {os : List Gr} (h : OdOwn w B v n os) (hb : C ≤ B) : OdOwn w C v n os := by
  obtain ⟨xs, a, b⟩ := h.row
  exact ⟨h.len, xs, own_base a hb, fun i hi => by obtain ⟨q, ⟨u, c, d⟩, z⟩ := b i hi; exact ⟨q, ⟨u, c, own_base d hb⟩, z⟩⟩
theorem grown_cell (w : World) (p : Addr) (u : Value) : w.grownBy (w.setCell p u) (some p.block) := ⟨rfl, rfl, rfl, by simp [World.setCell], fun q hq hne => Below.heap_setCell _ _ _ _ (by intro e; exact hne (by rw [e]))⟩
/-- A block of four cells, written. -/
theorem put_four {w : World} {b : Nat} {a0 a1 a2 a3 : Value} {t : TypeId} (h : w.heap[b]? = some (.cells #[a0, a1, a2, a3] t (0, 0))) (x0 x1 x2 x3 : Value) : ((((w.setCell ⟨b, 0, none⟩ x0).setCell ⟨b, 1, none⟩ x1).setCell ⟨b, 2, none⟩ x2).setCell ⟨b, 3, none⟩ x3).heap[b]? = some (.cells #[x0, x1, x2, x3] t (0, 0)) := by
  rw [set_block (set_block (set_block (set_block h 0 x0) 1 x1) 2 x2) 3 x3]; rfl
theorem grown_four (w : World) (b : Nat) (x0 x1 x2 x3 : Value) : w.grownBy ((((w.setCell ⟨b, 0, none⟩ x0).setCell ⟨b, 1, none⟩ x1).setCell ⟨b, 2, none⟩ x2).setCell ⟨b, 3, none⟩ x3) (some b) := by
  refine ⟨rfl, rfl, rfl, by simp [World.setCell], fun q hq hne => ?_⟩
  have hn : q ≠ b := fun e => hne (by rw [e])
  rw [Below.heap_setCell _ _ _ _ hn, Below.heap_setCell _ _ _ _ hn, Below.heap_setCell _ _ _ _ hn, Below.heap_setCell _ _ _ _ hn]
theorem cell_block {w : World} {b : Nat} {c : Array Value} {t : TypeId} (h : w.heap[b]? = some (.cells c t (0, 0))) (k : Nat) : w.cell? ⟨b, k, none⟩ = c[k]? := by
  unfold World.cell?; rw [h]; rfl
/-- A copy under way: the form's box, the result's cell. -/
structure Cp (F : Fv) (w0 w : World) (b ro B : Nat) (vc vo : Value) : Prop where
  f : F.At w0
  bw : Below w0.heap.size w0 w
  lo : w0.heap.size ≤ b
  lo2 : w0.heap.size ≤ ro
  hi : b < B
  hi2 : ro < B
  ne : b ≠ ro
  sz : B ≤ w.heap.size
  blk : w.heap[b]? = some (.cells #[.int .i64 F.P, .int .i64 F.N, vc, vo] 25 (0, 0))
  res : w.heap[ro]? = some (.cells #[.int .i64 0, .int .i64 0, .slice none 0 0, .slice none 0 0] 25 (0, 0))
theorem Cp.grown {F : Fv} {w0 w w' : World} {b ro B : Nat} {vc vo : Value} {row : Option Nat} (h : Cp F w0 w b ro B vc vo) (hg : w.grownBy w' row) (hr : ∀ q, row = some q → B ≤ q) : Cp F w0 w' b ro B vc vo :=
  ⟨h.f, h.bw.grown hg (Nat.le_trans (Nat.le_trans h.lo (Nat.le_of_lt h.hi)) h.sz) (fun k hk => Nat.le_trans (Nat.le_trans h.lo (Nat.le_of_lt h.hi)) (hr k hk)), h.lo, h.lo2, h.hi, h.hi2, h.ne, Nat.le_trans h.sz hg.size,
   (hg.block b (Nat.lt_of_lt_of_le h.hi h.sz) (fun e => by have := hr b e.symm; have := h.hi; omega)).trans h.blk,
   (hg.block ro (Nat.lt_of_lt_of_le h.hi2 h.sz) (fun e => by have := hr ro e.symm; have := h.hi2; omega)).trans h.res⟩
theorem Cp.keep {F : Fv} {w0 w w' : World} {b ro B : Nat} {vc vo : Value} (h : Cp F w0 w b ro B vc vo) (k : Below w.heap.size w w') : Cp F w0 w' b ro B vc vo := h.grown (grown_of_below k) (fun q e => by cases e)
theorem Cp.cell {F : Fv} {w0 w : World} {b ro B : Nat} {vc vo : Value} (h : Cp F w0 w b ro B vc vo) (k : Nat) : w.cell? ⟨b, k, none⟩ = (#[.int .i64 F.P, .int .i64 F.N, vc, vo] : Array Value)[k]? := by
  unfold World.cell?; rw [h.blk]; rfl
theorem Cp.free {F : Fv} {w0 w : World} {b ro B : Nat} {vc vo : Value} (h : Cp F w0 w b ro B vc vo) (k : Nat) : w.frozen? ⟨b, k, none⟩ = false := by
  unfold World.frozen?; rw [h.blk]; simp
theorem Cp.resc {F : Fv} {w0 w : World} {b ro B : Nat} {vc vo : Value} (h : Cp F w0 w b ro B vc vo) (k : Nat) : w.cell? ⟨ro, k, none⟩ = (#[.int .i64 0, .int .i64 0, .slice none 0 0, .slice none 0 0] : Array Value)[k]? := by
  unfold World.cell?; rw [h.res]; rfl
theorem Cp.rfree {F : Fv} {w0 w : World} {b ro B : Nat} {vc vo : Value} (h : Cp F w0 w b ro B vc vo) (k : Nat) : w.frozen? ⟨ro, k, none⟩ = false := by
  unfold World.frozen?; rw [h.res]; simp
theorem Cp.put2 {F : Fv} {w0 w : World} {b ro B : Nat} {vc vo : Value} (h : Cp F w0 w b ro B vc vo) (u : Value) : Cp F w0 (w.setCell ⟨b, 2, none⟩ u) b ro B u vo := by
  have hg := grown_cell w ⟨b, 2, none⟩ u
  refine ⟨h.f, h.bw.setCell (p := ⟨b, 2, none⟩) h.lo u, h.lo, h.lo2, h.hi, h.hi2, h.ne, Nat.le_trans h.sz hg.size, ?_, (hg.block ro (Nat.lt_of_lt_of_le h.hi2 h.sz) (fun e => by cases e; exact h.ne rfl)).trans h.res⟩
  rw [set_block h.blk]; rfl
theorem Cp.put3 {F : Fv} {w0 w : World} {b ro B : Nat} {vc vo : Value} (h : Cp F w0 w b ro B vc vo) (u : Value) : Cp F w0 (w.setCell ⟨b, 3, none⟩ u) b ro B vc u := by
  have hg := grown_cell w ⟨b, 3, none⟩ u
  refine ⟨h.f, h.bw.setCell (p := ⟨b, 3, none⟩) h.lo u, h.lo, h.lo2, h.hi, h.hi2, h.ne, Nat.le_trans h.sz hg.size, ?_, (hg.block ro (Nat.lt_of_lt_of_le h.hi2 h.sz) (fun e => by cases e; exact h.ne rfl)).trans h.res⟩
  rw [set_block h.blk]; rfl
/-- The sets up to i are copied. -/
structure CoHalf (w0 w : World) (B : Nat) (v : Value) (n : Nat) (ls : List (List Sp)) (i : Nat) : Prop where
  len : ls.length = n
  row : ∃ xs, w.ownsRow B 34 1 v n xs ∧ (∀ j (h : j < ls.length), j < i → ∃ u, xs[j]? = some u ∧ w.ownsRow B 50 2 u ls[j].length (spCells ls[j])) ∧ ∀ j (h : j < ls.length), i ≤ j → ∃ o k d, xs[j]? = some (.slice o k d) ∧ SpAt w0 o k d ls[j]
theorem CoHalf.grown {w0 w w' : World} {B n i : Nat} {v : Value} {ls : List (List Sp)} {row : Option Nat} (h : CoHalf w0 w B v n ls i) (hg : w.grownBy w' row) (h1 : Off w B 34 row) (h2 : Off w B 50 row) : CoHalf w0 w' B v n ls i := by
  obtain ⟨xs, a, b, c⟩ := h.row
  exact ⟨h.len, xs, own_off a hg h1, fun i hi q => by obtain ⟨u, c, d⟩ := b i hi q; exact ⟨u, c, own_off d hg h2⟩, c⟩
theorem CoHalf.keep {w0 w w' : World} {B n i : Nat} {v : Value} {ls : List (List Sp)} (h : CoHalf w0 w B v n ls i) (k : Below w.heap.size w w') : CoHalf w0 w' B v n ls i := h.grown (grown_of_below k) (fun q e => by cases e) (fun q e => by cases e)
theorem CoHalf.done {w0 w : World} {B n : Nat} {v : Value} {ls : List (List Sp)} (h : CoHalf w0 w B v n ls n) : CoOwn w B v n ls := by
  obtain ⟨xs, a, b, _⟩ := h.row
  exact ⟨h.len, xs, a, fun i hi => b i hi (by rw [← h.len]; exact hi)⟩
/-- The next set is copied. -/
theorem CoHalf.step {w0 w : World} {B n i g c : Nat} {ls : List (List Sp)} (h : CoHalf w0 w B (.slice (some ⟨g, 0, none⟩) n c) n ls i) (hi : i < n) {u : Value} {B2 : Nat} (hB : B ≤ B2) (hu : w.ownsRow B2 50 2 u (ls[i]'(by rw [h.len]; exact hi)).length (spCells (ls[i]'(by rw [h.len]; exact hi)))) :
    CoHalf w0 (w.setCell ⟨g, i, none⟩ u) B (.slice (some ⟨g, 0, none⟩) n c) n ls (i + 1) := by
  obtain ⟨xs, a, b, d⟩ := h.row
  have hs := a.stored i u
  obtain ⟨cur, ht⟩ := own_typed a (g := g) rfl
  have off43 : ∀ B', Off w B' 50 (some g) := fun B' q e => .inr ⟨cur, 34, by cases e; exact ht, by decide⟩
  have hl := a.1
  have hil : i < xs.length := by rw [hl]; omega
  refine ⟨h.len, _, hs.1, fun j hj q => ?_, fun j hj q => ?_⟩
  · by_cases e : j = i
    · subst e
      exact ⟨u, by simp [hil], own_base (own_off hu hs.2 (off43 _)) hB⟩
    · obtain ⟨u', c1, c2⟩ := b j hj (by omega)
      exact ⟨u', by rw [List.getElem?_set, if_neg (by omega)]; exact c1, own_off c2 hs.2 (off43 _)⟩
  · obtain ⟨o, k, dd, c1, c2⟩ := d j hj (by omega)
    exact ⟨o, k, dd, by rw [List.getElem?_set, if_neg (by omega)]; exact c1, c2⟩
/-- The exceptions up to i are copied. -/
structure OdHalf (w0 w : World) (B : Nat) (v : Value) (n : Nat) (os : List Gr) (i : Nat) : Prop where
  len : os.length = n
  row : ∃ xs, w.ownsRow B 52 2 v n xs ∧ (∀ j (h : j < os.length), xs[j * 2]? = some (.int .i64 os[j].1) ∧ -9223372036854775808 ≤ os[j].1 ∧ os[j].1 ≤ 9223372036854775807) ∧ (∀ j (h : j < os.length), j < i → ∃ u, xs[j * 2 + 1]? = some u ∧ w.ownsRow B 50 2 u os[j].2.length (spCells os[j].2)) ∧ ∀ j (h : j < os.length), i ≤ j → ∃ o k d, xs[j * 2 + 1]? = some (.slice o k d) ∧ SpAt w0 o k d os[j].2
theorem OdHalf.grown {w0 w w' : World} {B n i : Nat} {v : Value} {os : List Gr} {row : Option Nat} (h : OdHalf w0 w B v n os i) (hg : w.grownBy w' row) (h1 : Off w B 52 row) (h2 : Off w B 50 row) : OdHalf w0 w' B v n os i := by
  obtain ⟨xs, a, z, b, c⟩ := h.row
  exact ⟨h.len, xs, own_off a hg h1, z, fun i hi q => by obtain ⟨u, c, d⟩ := b i hi q; exact ⟨u, c, own_off d hg h2⟩, c⟩
theorem OdHalf.keep {w0 w w' : World} {B n i : Nat} {v : Value} {os : List Gr} (h : OdHalf w0 w B v n os i) (k : Below w.heap.size w w') : OdHalf w0 w' B v n os i := h.grown (grown_of_below k) (fun q e => by cases e) (fun q e => by cases e)
theorem OdHalf.done {w0 w : World} {B n : Nat} {v : Value} {os : List Gr} (h : OdHalf w0 w B v n os n) : OdOwn w B v n os := by
  obtain ⟨xs, a, z, b, _⟩ := h.row
  exact ⟨h.len, xs, a, fun i hi => ⟨(z i hi).1, b i hi (by rw [← h.len]; exact hi), (z i hi).2⟩⟩
theorem od_start {w0 w : World} {B n : Nat} {v : Value} {vs : List Value} {os : List Gr} (h : w.ownsRow B 52 2 v n vs) (hl : os.length = n) (hv : VsOd w0 vs os) : OdHalf w0 w B v n os 0 :=
  ⟨hl, vs, h, fun j hj => ⟨(hv.at_ j hj).1, (hv.at_ j hj).2.2⟩, fun j hj q => absurd q (Nat.not_lt_zero _), fun j hj _ => (hv.at_ j hj).2.1⟩
theorem OdHalf.step {w0 w : World} {B n i g c : Nat} {os : List Gr} (h : OdHalf w0 w B (.slice (some ⟨g, 0, none⟩) n c) n os i) (hi : i < n) {u : Value} {B2 : Nat} (hB : B ≤ B2) (hu : w.ownsRow B2 50 2 u (os[i]'(by rw [h.len]; exact hi)).2.length (spCells (os[i]'(by rw [h.len]; exact hi)).2)) :
    OdHalf w0 (w.setCell ⟨g, i * 2 + 1, none⟩ u) B (.slice (some ⟨g, 0, none⟩) n c) n os (i + 1) := by
  obtain ⟨xs, a, z, b, d⟩ := h.row
  have hs := a.stored (i * 2 + 1) u
  obtain ⟨cur, ht⟩ := own_typed a (g := g) rfl
  have off43 : ∀ B', Off w B' 50 (some g) := fun B' q e => .inr ⟨cur, 52, by cases e; exact ht, by decide⟩
  have hl := a.1
  have hil : i * 2 + 1 < xs.length := by rw [hl]; omega
  refine ⟨h.len, _, hs.1, fun j hj => ⟨by rw [List.getElem?_set, if_neg (by omega)]; exact (z j hj).1, (z j hj).2⟩, fun j hj q => ?_, fun j hj q => ?_⟩
  · by_cases e : j = i
    · subst e
      exact ⟨u, by simp [hil], own_base (own_off hu hs.2 (off43 _)) hB⟩
    · obtain ⟨u', c1, c2⟩ := b j hj (by omega)
      exact ⟨u', by rw [List.getElem?_set, if_neg (by omega)]; exact c1, own_off c2 hs.2 (off43 _)⟩
  · obtain ⟨o, k, dd, c1, c2⟩ := d j hj (by omega)
    exact ⟨o, k, dd, by rw [List.getElem?_set, if_neg (by omega)]; exact c1, c2⟩
theorem heap_at {w : World} {o : Obj} {b : Nat} (h : w.heap.size = b) : (w.alloc o).heap[b]? = some o := by subst h; exact heap_alloc_new w o
set_option maxHeartbeats 1000000 in
theorem weeks_any (w : World) : Calls Try.prog 21 #[] w fun e w' => ∃ co cc, e = .returned (weeksF 7 [] co cc none 0).v ∧ Hid (CoAt w' co 1 cc [[(0, 4)]]) ∧ Below w.heap.size w w' := by
  go_enter Try.func21, Try.ntmps21
  go_wp2
  obtain ⟨b, hb⟩ : ∃ b, w.heap.size = b := ⟨_, rfl⟩
  rw [hb]
  generalize hwf : ((w.alloc (.cells #[.int .i64 7, .int .i64 1, .slice (some ⟨b + 1 + 1, 0, none⟩) 1 1, .slice none 0 0] 25)).alloc (.cells #[.int .i64 0, .int .i64 4] 50)).alloc (.cells #[.slice (some ⟨b + 1, 0, none⟩) 1 1] 34) = wf
  have k0 : wf.heap[b]? = some (.cells #[.int .i64 7, .int .i64 1, .slice (some ⟨b + 1 + 1, 0, none⟩) 1 1, .slice none 0 0] 25 (0, 0)) := by
    rw [← hwf, ← hb, heap_alloc_old _ _ (by simp; omega), heap_alloc_old _ _ (by simp), heap_alloc_new]
  have k1 : wf.heap[b + 1]? = some (.cells #[.int .i64 0, .int .i64 4] 50 (0, 0)) := by
    rw [← hwf, heap_alloc_old _ _ (by simp; omega)]; exact heap_at (by simp; omega)
  have k2 : wf.heap[b + 1 + 1]? = some (.cells #[.slice (some ⟨b + 1, 0, none⟩) 1 1] 34 (0, 0)) := by
    rw [← hwf]; exact heap_at (by simp; omega)
  have HB : Hid (Below w.heap.size w wf) := Lib.hid (by rw [← hwf]; exact (((Below.refl _ w).alloc (Nat.le_refl _) _).alloc (by simp) _).alloc (by simp; omega) _)
  clear hwf
  have r0 : wf.cell? ⟨b, 0, none⟩ = some (.int .i64 7) := cell_block k0 0
  have r1 : wf.cell? ⟨b, 1, none⟩ = some (.int .i64 1) := cell_block k0 1
  have r2 : wf.cell? ⟨b, 2, none⟩ = some (.slice (some ⟨b + 1 + 1, 0, none⟩) 1 1) := cell_block k0 2
  have r3 : wf.cell? ⟨b, 3, none⟩ = some (.slice none 0 0) := cell_block k0 3
  have HC : Hid (CoAt wf (some ⟨b + 1 + 1, 0, none⟩) 1 1 [[(0, 4)]]) := Lib.hid (by
    refine ⟨rfl, Nat.le_refl _, by decide, (fun e => by cases e), fun _ => ⟨_, _, rfl, fun i hi => ?_⟩⟩
    obtain rfl : i = 0 := by simpa using hi
    refine ⟨_, _, _, cell_block k2 0, rfl, Nat.le_refl _, (show 1 ≤ 9223372036854775807 by decide), (fun e => by cases e), fun _ => ⟨_, _, rfl, fun j hj => ?_⟩⟩
    obtain rfl : j = 0 := by simpa using hj
    exact ⟨cell_block k1 0, cell_block k1 1⟩)
  exact bodyPost_ret (v := (weeksF 7 [] (some ⟨b + 1 + 1, 0, none⟩) 1 none 0).v) (by simp [results, Try.results21, go_sem, r0, r1, r2, r3]) rfl ⟨_, _, rfl, HC, by rw [← hb]; exact HB.out⟩
end Go.Proofs.Ytmjapbjjfhmohaa
