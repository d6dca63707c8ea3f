/- Ported. -/
import Derived.Test.YtjhbgedobkpdhaaGreatEf
import Derived.Test.YtjhbgedobkpdhaaGreatW2
namespace Go.Proofs.YtjhbgedobkpdhaaGreat
set_option linter.unusedVariables false
set_option linter.unusedSimpArgs false
open Go.ChangeShapes Go.WideShapes Go.ChangeAt Go.RowKit
def AtIs (F : Fv) (t i : Int) (ok : Bool) : Prop := (ok = true → Ex F i ∧ mem (gr F i) t) ∧ (ok = false → i = 0 ∧ ∀ k, Ex F k → ¬ mem (gr F k) t)
theorem at_none {F : Fv} (ok : F.Ok) {t : Int} (h : FromIs F t 0 false) : AtIs F t 0 false := ⟨(fun z => by cases z), fun _ => ⟨rfl, fun k e m => by have := (gr_mem_hull ok e m).2; have := (h.2 rfl).2 k e; omega⟩⟩
theorem at_miss {F : Fv} (rt : F.Rt) (ok : F.Ok) (hl : F.cs.length = F.cn) {t i : Int} (h : FromIs F t i true) (n : ¬ mem (gr F i) t) : AtIs F t 0 false := ⟨(fun z => by cases z), fun _ => ⟨rfl, fun k e m => by
  obtain ⟨a, b, c⟩ := h.1 rfl
  have q := gr_mem_hull ok e m
  have ik := c k e q.2
  rcases Int.lt_or_eq_of_le ik with z | rfl
  · have := ex_order rt ok hl a.1 e.1 z a.2.2 e.2.2; omega
  · exact n m⟩⟩
set_option maxRecDepth 8000 in
set_option maxHeartbeats 2000000 in
theorem at_any (F : Fv) (t : Int) (w : World) (hF : F.At w) (rt : F.Rt) (ok : F.Ok) (hc : F.cn ≤ 10000) (t1 : -9223372036854775808 ≤ t) (t2 : t ≤ 9223372036854775807) : Calls Tryz.prog 8 #[F.v, .int .i64 t] w fun e w' => IbOut (AtIs F t) e ∧ Hid (Below w.heap.size w w') := by
  have HRT := Lib.hid rt
  have HOK := Lib.hid ok
  clear rt ok
  obtain ⟨P, N, co, cn, cc, oo, on, oc, cs, os⟩ := F
  have LC : Hid (cs.length = cn) := Lib.hid hF.core.len
  have LO : Hid (os.length = on) := Lib.hid hF.odd.len
  have hmc : cn ≤ 9223372036854775807 := Nat.le_trans hF.core.le hF.core.top
  have hmo : on ≤ 9223372036854775807 := Nat.le_trans hF.odd.le hF.odd.top
  have hc10 : cn ≤ 10000 := hc
  have HRT : Hid (Fv.Rt ⟨P, N, co, cn, cc, oo, on, oc, cs, os⟩) := HRT
  have HOK : Hid (Fv.Ok ⟨P, N, co, cn, cc, oo, on, oc, cs, os⟩) := HOK
  have HLN : Hid ((Fv.cs ⟨P, N, co, cn, cc, oo, on, oc, cs, os⟩).length = Fv.cn ⟨P, N, co, cn, cc, oo, on, oc, cs, os⟩) := Lib.hid LC.out
  obtain ⟨b, hb⟩ : ∃ b, w.heap.size = b := ⟨_, rfl⟩
  obtain ⟨wb, hwb⟩ : ∃ wb, w.alloc (.cells #[.int .i64 P, .int .i64 N, .slice co cn cc, .slice oo on oc] 25) = wb := ⟨_, rfl⟩
  have HBB : Hid (Fbox ⟨P, N, co, cn, cc, oo, on, oc, cs, os⟩ w wb b) := Lib.hid (by rw [← hwb, ← hb]; exact fbox_new hF)
  have HF := Lib.hid hF
  clear hF
  have CF : Hid (∀ W, Fv.At ⟨P, N, co, cn, cc, oo, on, oc, cs, os⟩ W → Calls Tryz.prog 10 #[.agg #[.int .i64 P, .int .i64 N, .slice co cn cc, .slice oo on oc], .int .i64 t] W fun e w' => IbOut (FromIs ⟨P, N, co, cn, cc, oo, on, oc, cs, os⟩ t) e ∧ Hid (Below W.heap.size W w')) := Lib.hid (fun W h => from_any ⟨P, N, co, cn, cc, oo, on, oc, cs, os⟩ t W h HRT.out HOK.out hc10 t1 t2)
  have CE : Hid (∀ i W, Fv.At ⟨P, N, co, cn, cc, oo, on, oc, cs, os⟩ W → Calls Tryz.prog 25 #[.agg #[.int .i64 P, .int .i64 N, .slice co cn cc, .slice oo on oc], .int .i64 i] W fun e w' => ExOut ⟨P, N, co, cn, cc, oo, on, oc, cs, os⟩ i e w' ∧ Hid (Below W.heap.size W w')) := Lib.hid (fun i W h => exists_any ⟨P, N, co, cn, cc, oo, on, oc, cs, os⟩ i W h HOK.out)
  show Calls Tryz.prog 8 #[.agg #[.int .i64 P, .int .i64 N, .slice co cn cc, .slice oo on oc], .int .i64 t] w _
  go_enter Tryz.func8, Tryz.ntmps8
  go_upto_region 1 with fail
  clear hwb hb
  have e0 : wb.cell? ⟨b, 0, none⟩ = some (.int .i64 P) := HBB.out.c0
  have e1 : wb.cell? ⟨b, 1, none⟩ = some (.int .i64 N) := HBB.out.c1
  have e2 : wb.cell? ⟨b, 2, none⟩ = some (.slice co cn cc) := HBB.out.c2
  have e3 : wb.cell? ⟨b, 3, none⟩ = some (.slice oo on oc) := HBB.out.c3
  go_wp2_with fail
  (with_reducible refine (CF.out _ HBB.out.at_).mono ?_)
  rintro e w1 ⟨⟨i, ok, rfl, hf⟩, q⟩
  have HBB := Lib.hid (HBB.out.keep q.out)
  clear e0 e1 e2 e3 q
  have e0 : w1.cell? ⟨b, 0, none⟩ = some (.int .i64 P) := HBB.out.c0
  have e1 : w1.cell? ⟨b, 1, none⟩ = some (.int .i64 N) := HBB.out.c1
  have e2 : w1.cell? ⟨b, 2, none⟩ = some (.slice co cn cc) := HBB.out.c2
  have e3 : w1.cell? ⟨b, 3, none⟩ = some (.slice oo on oc) := HBB.out.c3
  have HFI := Lib.hid hf
  clear hf
  cases ok
  · have HZ : Hid (AtIs ⟨P, N, co, cn, cc, oo, on, oc, cs, os⟩ t 0 false) := Lib.hid (at_none HOK.out (by have := HFI.out; have e := (this.2 rfl).1; rw [e] at this; exact this))
    go_wp2
    go_returns
    exact ⟨⟨0, false, rfl, HZ.out⟩, Lib.hid HBB.out.bw⟩
  · have HEI := Lib.hid (HFI.out.1 rfl).1
    go_wp2_with fail
    (with_reducible refine (CE.out i _ HBB.out.at_).mono ?_)
    rintro e w2 ⟨⟨ao, n, c, L, ok2, rfl, hs, h1, h2⟩, q⟩
    have HBB := Lib.hid (HBB.out.keep q.out)
    clear e0 e1 e2 e3 q
    have hok : ok2 = true := h1.2 HEI.out
    subst hok
    have hL := h2 rfl
    subst hL
    obtain ⟨r, hr⟩ : ∃ r : Bool, r = true ↔ mem (gr ⟨P, N, co, cn, cc, oo, on, oc, cs, os⟩ i) t := by classical exact ⟨decide _, decide_eq_true_iff⟩
    have HR := Lib.hid hr
    have HH := Lib.hid (has_any ao n c (gr ⟨P, N, co, cn, cc, oo, on, oc, cs, os⟩ i) t w2 hs (gr_good' HOK.out HEI.out) (by rw [← hs.len]; exact Nat.le_trans (gr_len HOK.out i) (by decide)) r hr)
    clear hs h1 h2 hr
    go_wp2_with fail
    (with_reducible refine HH.out.mono ?_)
    rintro e w3 ⟨rfl, q⟩
    have HBB := Lib.hid (HBB.out.keep q)
    clear q HH
    cases r
    · have HZ : Hid (AtIs ⟨P, N, co, cn, cc, oo, on, oc, cs, os⟩ t 0 false) := Lib.hid (at_miss HRT.out HOK.out HLN.out HFI.out (fun z => by have := HR.out.2 z; cases this))
      go_wp2
      go_returns
      exact ⟨⟨0, false, rfl, HZ.out⟩, Lib.hid HBB.out.bw⟩
    · have HZ : Hid (AtIs ⟨P, N, co, cn, cc, oo, on, oc, cs, os⟩ t i true) := Lib.hid ⟨fun _ => ⟨HEI.out, HR.out.1 rfl⟩, fun z => by cases z⟩
      go_wp2
      go_returns
      exact ⟨⟨i, true, rfl, HZ.out⟩, Lib.hid HBB.out.bw⟩
theorem isClo_any (want : Int) (ok : Bool) (w : World) : Calls Tryz.prog 23 #[.int .i64 want, .bool ok] w fun e w' => ∃ x y, e = .returned (.func (.func 54) #[] #[.pointer (some ⟨x, 0, none⟩), .pointer (some ⟨y, 0, none⟩)]) ∧ Hid (w'.cell? ⟨x, 0, none⟩ = some (.int .i64 want) ∧ w'.cell? ⟨y, 0, none⟩ = some (.bool ok)) ∧ Hid (Below w.heap.size w w') := by
  obtain ⟨b, hb⟩ : ∃ b, w.heap.size = b := ⟨_, rfl⟩
  go_enter Tryz.func23, Tryz.ntmps23
  go_wp2
  rw [hb]
  have H : Hid (((w.alloc (.cells #[.int .i64 want] 3)).alloc (.cells #[.bool ok] 4)).cell? ⟨b, 0, none⟩ = some (.int .i64 want) ∧ ((w.alloc (.cells #[.int .i64 want] 3)).alloc (.cells #[.bool ok] 4)).cell? ⟨b + 1, 0, none⟩ = some (.bool ok)) := Lib.hid ⟨cell_block ((Below.heap_alloc (w.alloc (.cells #[.int .i64 want] 3)) (.cells #[.bool ok] 4) b (by simp; omega)).trans (heap_at hb)) 0, cell_block (heap_at (by simp; omega)) 0⟩
  have H2 : Hid (Below w.heap.size w ((w.alloc (.cells #[.int .i64 want] 3)).alloc (.cells #[.bool ok] 4))) := Lib.hid (((Below.refl _ w).alloc (Nat.le_refl _) _).alloc (by simp) _)
  generalize (w.alloc (.cells #[.int .i64 want] 3)).alloc (.cells #[.bool ok] 4) = wf at H H2 ⊢
  go_returns
  rw [hb] at H2
  exact ⟨b, b + 1, rfl, H, H2⟩
theorem isC_any (want : Int) (ok : Bool) (i : Int) (k : Bool) (x y : Nat) (w : World) (hx : w.cell? ⟨x, 0, none⟩ = some (.int .i64 want)) (hy : w.cell? ⟨y, 0, none⟩ = some (.bool ok)) (r : Bool) (hr : r = true ↔ i = want ∧ k = ok) : Calls Tryz.prog 54 #[.int .i64 i, .bool k, .pointer (some ⟨x, 0, none⟩), .pointer (some ⟨y, 0, none⟩)] w fun e w' => e = .returned (.bool r) ∧ w' = w := by
  have HR := Lib.hid hr
  clear hr
  by_cases e : i = want
  · have t9 : (i == want) = true := by simp; exact e
    have HE : Hid ((k == ok) = r) := Lib.hid (by
      have h : (k == ok) = true ↔ r = true := by rw [HR.out]; simp [e]
      cases r <;> cases h2 : (k == ok) <;> simp_all)
    clear e
    go_enter Tryz.func54, Tryz.ntmps54
    cases k <;> cases ok <;> (go_wp2; go_returns; exact ⟨by rw [← HE.out]; rfl, rfl⟩)
  · have t9 : (i == want) = false := by simp; exact e
    have HE : Hid (false = r) := Lib.hid (by cases r; rfl; exact absurd (HR.out.1 rfl).1 e)
    clear e
    go_enter Tryz.func54, Tryz.ntmps54
    go_wp2
    go_returns
    exact ⟨ret_bool HE.out, rfl⟩
/-- A list of numbers in memory. -/
structure IzAt (w : World) (ao : Option Addr) (n c : Nat) (xs : List Int) : Prop where
  len : xs.length = n
  le : n ≤ c
  top : c ≤ 9223372036854775807
  here : 0 < n → ∃ b p, ao = some ⟨b, p, none⟩ ∧ ∀ i (h : i < xs.length), w.cell? ⟨b, p + i, none⟩ = some (.int .i64 xs[i])
theorem IzAt.keep {w w' : World} {ao : Option Addr} {n c : Nat} {xs : List Int} (h : IzAt w ao n c xs) (k : Below w.heap.size w w') : IzAt w' ao n c xs := ⟨h.len, h.le, h.top, fun hn => by obtain ⟨b, p, e, hc⟩ := h.here hn; exact ⟨b, p, e, fun i hi => cell_keep (hc i hi) k⟩⟩
theorem own_iz {w : World} {B : Nat} {v : Value} {xs : List Int} (h : w.ownsRow B 3 1 v xs.length (ints xs)) : ∃ ao c, v = .slice ao xs.length c ∧ IzAt w ao xs.length c xs := by
  rcases h.2 with ⟨q1, q2⟩ | ⟨g, cap, cur, hv, h2, h3, h4, h5, h6, h7⟩
  · have hx : xs = [] := by cases xs with | nil => rfl | cons a r => simp [ints] at q2
    subst hx
    exact ⟨none, 0, q1, rfl, Nat.le_refl _, by decide, fun h => absurd h (Nat.lt_irrefl _)⟩
  · refine ⟨_, cap, hv, rfl, h4, by unfold maxLen at h5; omega, fun _ => ⟨g, 0, rfl, fun i hi => ?_⟩⟩
    rw [Nat.zero_add, cell_block h3]
    have e := congrArg (fun q => q[i]?) h7
    simp only [List.getElem?_take] at e
    rw [if_pos (by omega)] at e
    rw [← Array.getElem?_toList, e]
    simp [ints, hi]
theorem iz_two {w : World} {g : Nat} {x y : Int} (h : w.heap[g]? = some (.cells #[.int .i64 x, .int .i64 y] 3 (0, 0))) : IzAt w (some ⟨g, 0, none⟩) 2 2 [x, y] := ⟨rfl, Nat.le_refl _, (show 2 ≤ 9223372036854775807 by decide), fun _ => ⟨g, 0, rfl, fun i hi => by
  match i, hi with
  | 0, _ => exact cell_block h 0
  | 1, _ => exact cell_block h 1⟩⟩
theorem take_iz {a b : List Int} (h : a.length = b.length) {k : Nat} (hk : k < a.length) (e : a.take k = b.take k) : a.take (k + 1) = b.take (k + 1) ↔ a[k] = b[k]'(by omega) := by
  have hb : k < b.length := by omega
  have e2 := List.take_succ_eq_append_getElem hb
  rw [List.take_succ_eq_append_getElem hk, e2, e]
  exact ⟨fun h => (List.cons.inj (List.append_cancel_left h)).1, fun h => by rw [h]⟩
set_option maxHeartbeats 2000000 in
theorem ints_any (ao bo : Option Addr) (n c m d : Nat) (a b : List Int) (w : World) (ha : IzAt w ao n c a) (hb : IzAt w bo m d b) (r : Bool) (hr : r = true ↔ a = b) : Calls Tryz.prog 17 #[.slice ao n c, .slice bo m d] w fun e w' => e = .returned (.bool r) ∧ Below w.heap.size w w' := by
  have HA := Lib.hid ha
  have HB := Lib.hid hb
  have HR := Lib.hid hr
  have hx1 : n ≤ 9223372036854775807 := Nat.le_trans ha.le ha.top
  have hx2 : m ≤ 9223372036854775807 := Nat.le_trans hb.le hb.top
  have LA := Lib.hid ha.len
  have LB := Lib.hid hb.len
  clear ha hb hr
  by_cases hnm : n = m
  · subst hnm
    have t1 : ((n : Int) != (n : Int)) = false := by simp
    go_enter Tryz.func17, Tryz.ntmps17
    go_wp2
    go_loopw [13] (fun ii wr => ∃ i : Nat, i ≤ n ∧ ii = .int .i64 i ∧ Hid (a.take i = b.take i) ∧ Hid (Below w.heap.size w wr)) (fun ii _ => n - (intOf ii).toNat)
    case atStart => exact ⟨0, Nat.zero_le _, rfl, Lib.hid rfl, Lib.hid (Below.refl _ _)⟩
    case round =>
      obtain ⟨i, hi, rfl, HI, HW⟩ := hrel
      by_cases ilt : i < n
      · obtain ⟨x, p, rfl, hc⟩ := HA.out.here (by omega)
        obtain ⟨y, q, rfl, hd⟩ := HB.out.here (by omega)
        have hia : i < a.length := by rw [LA.out]; exact ilt
        have hib : i < b.length := by rw [LB.out]; exact ilt
        have c1 := cell_keep (hc i hia) HW.out
        have d1 := cell_keep (hd i hib) HW.out
        have HT := Lib.hid (take_iz (by rw [LA.out, LB.out]) hia HI.out)
        have HNE : Hid (a[i] ≠ b[i] → ¬ a = b) := Lib.hid (fun z e => z (by subst e; rfl))
        have i0 : (0 : Int) ≤ (i : Int) := by omega
        have i1 : (i : Int) < (n : Int) := by omega
        obtain ⟨s, hs⟩ : ∃ s, a[i] = s := ⟨_, rfl⟩
        obtain ⟨u, hu⟩ : ∃ s, b[i] = s := ⟨_, rfl⟩
        rw [hs] at c1 HT HNE
        rw [hu] at d1 HT HNE
        clear hc hd hs hu
        go_upto_region 6 with fail
        by_cases su : s = u
        · have t24 : (s != u) = false := by simp; exact su
          have HI2 : Hid (a.take (i + 1) = b.take (i + 1)) := Lib.hid (HT.out.2 su)
          clear su HI HT HNE
          go_quiet (fail)
          go_wp2
          go_roundw
          case rel => exact ⟨i + 1, by omega, by go_num, HI2, Lib.hid (below_drewN HW.out _)⟩
          case measure => simp [intOf]; omega
        · have t24 : (s != u) = true := by simp; exact su
          have HF : Hid (false = r) := Lib.hid (by cases r; rfl; exact absurd (HR.out.1 rfl) (HNE.out su))
          clear su HI HT HNE
          go_quiet (fail)
          go_wp2
          go_returns
          exact ⟨ret_bool HF.out, below_drewN HW.out _⟩
      · obtain rfl : n = i := by omega
        have HF : Hid (true = r) := Lib.hid (by
          have h := HI.out
          rw [List.take_of_length_le (by rw [LA.out]; omega), List.take_of_length_le (by rw [LB.out]; omega)] at h
          exact (HR.out.2 h).symm)
        go_wp2
        go_returns
        exact ⟨ret_bool HF.out, HW.out⟩
  · have t1 : ((n : Int) != (m : Int)) = true := by simp; omega
    have HF : Hid (false = r) := Lib.hid (by
      cases r
      · rfl
      · have h := HR.out.1 rfl
        have h1 := LA.out; have h2 := LB.out
        rw [← h] at h2
        omega)
    clear hnm
    go_enter Tryz.func17, Tryz.ntmps17
    go_wp2
    go_returns
    exact ⟨ret_bool HF.out, Below.refl _ _⟩
theorem weeks_cg (k : Int) : cg [[(0, 4)]] 7 1 k = [(7 * k, 7 * k + 4)] := by
  rw [cg_in (cs := [[(0, 4)]]) (P := 7) (N := 1) ⟨by decide, rfl⟩]
  have e1 : k.fmod 1 = 0 := by have := fmod_nat k (N := 1) (by decide); omega
  have e2 : k.fdiv 1 = k := by have := fmod_eq k 1; omega
  unfold cset
  rw [e1, e2]
  simp [moved]
  omega
theorem weeks_gr (co : Option Addr) (cc : Nat) (k : Int) : gr (weeksF 7 [] co cc none 0) k = [(7 * k, 7 * k + 4)] := weeks_cg k
theorem weeks_ex {co : Option Addr} {cc : Nat} {k : Int} (h : Ex (weeksF 7 [] co cc none 0) k) : -1099511627776 ≤ 7 * k ∧ 7 * k + 4 ≤ 1099511627776 := by
  have := h.2.1
  rw [weeks_gr] at this
  have := this (7 * k, 7 * k + 4) (by simp)
  omega
theorem ex_weeks {co : Option Addr} {cc : Nat} {k : Int} (h1 : -1000 ≤ k) (h2 : k ≤ 1000) : Ex (weeksF 7 [] co cc none 0) k := ⟨⟨by omega, by omega⟩, by rw [weeks_gr]; intro s hs; simp at hs; subst hs; simp only; omega, by rw [weeks_gr]; simp⟩
theorem weeks_mem (co : Option Addr) (cc : Nat) (k t : Int) : mem (gr (weeksF 7 [] co cc none 0) k) t ↔ 7 * k ≤ t ∧ t ≤ 7 * k + 4 := by rw [weeks_gr, mem_one]
theorem weeks_hulls (co : Option Addr) (cc : Nat) (k : Int) : hullA (gr (weeksF 7 [] co cc none 0) k) = 7 * k ∧ hullB (gr (weeksF 7 [] co cc none 0) k) = 7 * k + 4 := by rw [weeks_gr]; exact ⟨rfl, rfl⟩
theorem at_yes {F : Fv} {t i k : Int} {ok : Bool} (h : AtIs F t i ok) (e : Ex F k) (m : mem (gr F k) t) (u : ∀ j, mem (gr F j) t → j = k) : i = k ∧ ok = true := by
  cases ok with
  | true => exact ⟨u i (h.1 rfl).2, rfl⟩
  | false => exact absurd m ((h.2 rfl).2 k e)
theorem at_no {F : Fv} {t i : Int} {ok : Bool} (h : AtIs F t i ok) (u : ∀ j, Ex F j → ¬ mem (gr F j) t) : i = 0 ∧ ok = false := by
  cases ok with
  | true => exact absurd (h.1 rfl).2 (u i (h.1 rfl).1)
  | false => exact ⟨(h.2 rfl).1, rfl⟩
theorem from_yes {F : Fv} {t i k : Int} {ok : Bool} (h : FromIs F t i ok) (e : Ex F k) (m : t ≤ hullB (gr F k)) (u : ∀ j, Ex F j → t ≤ hullB (gr F j) → k ≤ j) : i = k ∧ ok = true := by
  cases ok with
  | true =>
    obtain ⟨a, b, c⟩ := h.1 rfl
    have := c k e m
    have := u i a b
    exact ⟨by omega, rfl⟩
  | false => have := (h.2 rfl).2 k e; omega
theorem from_no {F : Fv} {t i : Int} {ok : Bool} (h : FromIs F t i ok) (u : ∀ j, Ex F j → hullB (gr F j) < t) : i = 0 ∧ ok = false := by
  cases ok with
  | true => obtain ⟨a, b, c⟩ := h.1 rfl; have := u i a; omega
  | false => exact ⟨(h.2 rfl).1, rfl⟩
theorem till_yes {F : Fv} {t i k : Int} {ok : Bool} (h : TillIs F t i ok) (e : Ex F k) (m : hullA (gr F k) ≤ t) (u : ∀ j, Ex F j → hullA (gr F j) ≤ t → j ≤ k) : i = k ∧ ok = true := by
  cases ok with
  | true =>
    obtain ⟨a, b, c⟩ := h.1 rfl
    have := c k e m
    have := u i a b
    exact ⟨by omega, rfl⟩
  | false => have := (h.2 rfl).2 k e; omega
theorem sorted_eq : ∀ {a b : List Int}, a.Pairwise (· < ·) → b.Pairwise (· < ·) → (∀ i, i ∈ a ↔ i ∈ b) → a = b
  | [], [], _, _, _ => rfl
  | [], y :: s, _, _, h => by have := (h y).2 (List.mem_cons_self ..); cases this
  | x :: r, [], _, _, h => by have := (h x).1 (List.mem_cons_self ..); cases this
  | x :: r, y :: s, ha, hb, h => by
    rw [List.pairwise_cons] at ha hb
    have xy : x = y := by
      rcases List.mem_cons.1 ((h x).1 (List.mem_cons_self ..)) with e | q
      · exact e
      · rcases List.mem_cons.1 ((h y).2 (List.mem_cons_self ..)) with e | p
        · exact e.symm
        · have := hb.1 x q; have := ha.1 y p; omega
    subst xy
    congr 1
    refine sorted_eq ha.2 hb.2 (fun i => ⟨fun q => ?_, fun q => ?_⟩)
    · rcases List.mem_cons.1 ((h i).1 (List.mem_cons_of_mem _ q)) with rfl | z
      · have := ha.1 i q; omega
      · exact z
    · rcases List.mem_cons.1 ((h i).2 (List.mem_cons_of_mem _ q)) with rfl | z
      · have := hb.1 i q; omega
      · exact z
/-- What Over tells where few granules meet the hull. -/
theorem over_few {F : Fv} {l : List Sp} {xs : List Int} {k : Int} (h : OverIs F l xs k) (g : Good l) {zs : List Int} (hz : zs.Pairwise (· < ·)) (hn : zs.length ≤ 60000) (u : ∀ i, Ex F i → HMeet F l i → i ∈ zs) : k = 0 ∧ xs.Pairwise (· < ·) ∧ ∀ i, i ∈ xs ↔ Ex F i ∧ MeetL F l i := by
  rcases h with ⟨_, _, z⟩ | ⟨_, a, b, c, _⟩ | ⟨_, _, _, ys, y1, y2, y3⟩
  · exact absurd g z
  · exact ⟨a, b, c⟩
  · have := sorted_len y1 hz (fun i hi => u i (y3 i hi).1 (y3 i hi).2)
    omega
theorem ex_at9 {co : Option Addr} {cc : Nat} {i : Int} {ok : Bool} (h : AtIs (weeksF 7 [] co cc none 0) 9 i ok) : i = 1 ∧ ok = true := at_yes h (ex_weeks (by decide) (by decide)) ((weeks_mem _ _ _ _).2 (by omega)) (fun j m => by have := (weeks_mem _ _ _ _).1 m; omega)
theorem ex_at5 {co : Option Addr} {cc : Nat} {i : Int} {ok : Bool} (h : AtIs (weeksF 7 [] co cc none 0) 5 i ok) : i = 0 ∧ ok = false := at_no h (fun j _ m => by have := (weeks_mem _ _ _ _).1 m; omega)
theorem ex_from5 {co : Option Addr} {cc : Nat} {i : Int} {ok : Bool} (h : FromIs (weeksF 7 [] co cc none 0) 5 i ok) : i = 1 ∧ ok = true := from_yes h (ex_weeks (by decide) (by decide)) (by rw [(weeks_hulls _ _ _).2]; omega) (fun j _ m => by rw [(weeks_hulls _ _ _).2] at m; omega)
theorem ex_till5 {co : Option Addr} {cc : Nat} {i : Int} {ok : Bool} (h : TillIs (weeksF 7 [] co cc none 0) 5 i ok) : i = 0 ∧ ok = true := till_yes h (ex_weeks (by decide) (by decide)) (by rw [(weeks_hulls _ _ _).1]; omega) (fun j _ m => by rw [(weeks_hulls _ _ _).1] at m; omega)
theorem good38 : Good [(3, 8)] := by simp [Good, Rt]
theorem good56' : Good [(5, 6)] := by simp [Good, Rt]
theorem ex_over38 {co : Option Addr} {cc : Nat} {xs : List Int} {k : Int} (h : OverIs (weeksF 7 [] co cc none 0) [(3, 8)] xs k) : k = 0 ∧ xs = [0, 1] := by
  obtain ⟨a, b, c⟩ := over_few h good38 (zs := [0, 1]) (by simp) (by decide) (fun i _ ⟨t, m, h1, h2⟩ => by
    have := (weeks_mem _ _ _ _).1 m
    have h1 : (3 : Int) ≤ t := h1
    have h2 : t ≤ 8 := h2
    simp; omega)
  refine ⟨a, sorted_eq b (by simp) (fun i => ?_)⟩
  rw [c i]
  constructor
  · rintro ⟨_, t, m, n⟩
    have := (weeks_mem _ _ _ _).1 m
    have := (mem_one _ _).1 n
    simp only at this
    simp; omega
  · intro q
    simp at q
    rcases q with rfl | rfl
    · exact ⟨ex_weeks (by decide) (by decide), 3, (weeks_mem _ _ _ _).2 (by omega), (mem_one _ _).2 (by decide)⟩
    · exact ⟨ex_weeks (by decide) (by decide), 8, (weeks_mem _ _ _ _).2 (by omega), (mem_one _ _).2 (by decide)⟩
theorem ex_over56 {co : Option Addr} {cc : Nat} {xs : List Int} {k : Int} (h : OverIs (weeksF 7 [] co cc none 0) [(5, 6)] xs k) : k = 0 ∧ xs = [] := by
  obtain ⟨a, b, c⟩ := over_few h good56' (zs := []) (by simp) (by decide) (fun i _ ⟨t, m, h1, h2⟩ => by
    have := (weeks_mem _ _ _ _).1 m
    have h1 : (5 : Int) ≤ t := h1
    have h2 : t ≤ 6 := h2
    omega)
  refine ⟨a, sorted_eq b (by simp) (fun i => ?_)⟩
  rw [c i]
  constructor
  · rintro ⟨_, t, m, n⟩
    have := (weeks_mem _ _ _ _).1 m
    have := (mem_one _ _).1 n
    simp only at this
    omega
  · intro q; cases q
theorem alone_gr {oo : Option Addr} {oc : Nat} {k : Int} (h : Ex (aloneF oo oc) k) : k = 3 := by
  by_cases e : k = 3
  · exact e
  · exact absurd (gr_aN oo oc k e) h.2.2
theorem ex_alone {oo : Option Addr} {oc : Nat} : Ex (aloneF oo oc) 3 := ⟨⟨by decide, by decide⟩, by rw [gr_a3]; intro s hs; simp at hs; subst hs; decide, by rw [gr_a3]; simp⟩
theorem ex_from7 {oo : Option Addr} {oc : Nat} {i : Int} {ok : Bool} (h : FromIs (aloneF oo oc) 7 i ok) : i = 0 ∧ ok = false := from_no h (fun j e => by rw [alone_gr e, gr_a3]; decide)
theorem ex_till100 {oo : Option Addr} {oc : Nat} {i : Int} {ok : Bool} (h : TillIs (aloneF oo oc) 100 i ok) : i = 3 ∧ ok = true := till_yes h ex_alone (by rw [gr_a3]; decide) (fun j e _ => by rw [alone_gr e]; exact Int.le_refl _)
theorem okW (co : Option Addr) (cc : Nat) : (weeksF 7 [] co cc none 0).Ok := (rt_weeks co cc none 0).ok ⟨(show 1 ≤ 12 by decide), (show 0 ≤ 8 by decide), (show lens [[(0, 4)]] + lens (tks []) ≤ 60 by decide)⟩
theorem okA (oo : Option Addr) (oc : Nat) : (aloneF oo oc).Ok := (rt_alone oo oc).ok ⟨(show 0 ≤ 12 by decide), (show 1 ≤ 8 by decide), (show lens [] + lens (tks [(3, [(5, 6)])]) ≤ 60 by decide)⟩
theorem weeks_at' {W : World} {co : Option Addr} {cc : Nat} (h : CoAt W co 1 cc [[(0, 4)]]) : (weeksF 7 [] co cc none 0).At W := ⟨(show (-9223372036854775808 : Int) ≤ 7 by decide), (show (7 : Int) ≤ 9223372036854775807 by decide), (show (-9223372036854775808 : Int) ≤ 1 by decide), (show (1 : Int) ≤ 9223372036854775807 by decide), h, ⟨rfl, Nat.le_refl _, (show 0 ≤ 9223372036854775807 by decide), fun _ => ⟨rfl, rfl⟩, fun h => absurd h (Nat.lt_irrefl _)⟩, ⟨fun l hl => by simp at hl; subst hl; decide, fun o ho => by cases ho⟩⟩
theorem alone_at {W : World} {g1 g2 : Nat} (h1 : W.heap[g1]? = some (.cells #[.int .i64 5, .int .i64 6] 38 (0, 0))) (h2 : W.heap[g2]? = some (.cells #[.int .i64 3, .slice (some ⟨g1, 0, none⟩) 1 1] 50 (0, 0))) : (aloneF (some ⟨g2, 0, none⟩) 1).At W :=
  ⟨(show (-9223372036854775808 : Int) ≤ 0 by decide), (show (0 : Int) ≤ 9223372036854775807 by decide), (show (-9223372036854775808 : Int) ≤ 0 by decide), (show (0 : Int) ≤ 9223372036854775807 by decide),
   ⟨rfl, Nat.le_refl _, (show 0 ≤ 9223372036854775807 by decide), fun _ => ⟨rfl, rfl⟩, fun h => absurd h (Nat.lt_irrefl _)⟩,
   ⟨rfl, Nat.le_refl _, (show 1 ≤ 9223372036854775807 by decide), (fun e => by cases e), fun _ => ⟨g2, 0, rfl, fun i hi => by
      obtain rfl : i = 0 := by simpa using hi
      exact ⟨cell_block h2 0, ⟨_, _, _, cell_block h2 1, sp_one h1⟩, (show (-9223372036854775808 : Int) ≤ 3 by decide), (show (3 : Int) ≤ 9223372036854775807 by decide)⟩⟩⟩,
   ⟨(fun l hl => by cases hl), fun o ho => by simp at ho; subst ho; simp⟩⟩
/-- The two forms of the examples, boxed. -/
structure Aw (w W : World) (b1 b2 : Nat) (co : Option Addr) (cc : Nat) (oo : Option Addr) (oc : Nat) : Prop where
  bw : Below w.heap.size w W
  a1 : (weeksF 7 [] co cc none 0).At W
  a2 : (aloneF oo oc).At W
  h1 : W.heap[b1]? = some (.cells #[.int .i64 7, .int .i64 1, .slice co 1 cc, .slice none 0 0] 25 (0, 0))
  h2 : W.heap[b2]? = some (.cells #[.int .i64 0, .int .i64 0, .slice none 0 0, .slice oo 1 oc] 25 (0, 0))
theorem Aw.keep {w W W' : World} {b1 b2 : Nat} {co : Option Addr} {cc : Nat} {oo : Option Addr} {oc : Nat} (h : Aw w W b1 b2 co cc oo oc) (k : Below W.heap.size W W') : Aw w W' b1 b2 co cc oo oc :=
  have q : ∀ {j : Nat} {o : Obj}, W.heap[j]? = some o → W'.heap[j]? = some o := fun hj => (k.block _ (Array.getElem?_eq_some_iff.1 hj).1).trans hj
  ⟨h.bw.trans (k.mono h.bw.size), h.a1.keep k, h.a2.keep k, q h.h1, q h.h2⟩
set_option maxRecDepth 30000 in
set_option maxHeartbeats 4000000 in
theorem awake_any (w : World) : Calls Tryz.prog 6 #[] w fun e w' => e = .returned (.bool true) ∧ Below w.heap.size w w' := by
  have CWK : Hid (∀ W, Calls Tryz.prog 22 #[] W fun e w' => ∃ co cc, e = .returned (.agg #[.int .i64 7, .int .i64 1, .slice co 1 cc, .slice none 0 0]) ∧ Hid (CoAt w' co 1 cc [[(0, 4)]]) ∧ Below W.heap.size W w') := Lib.hid (fun W => weeks_any W)
  go_enter Tryz.func6, Tryz.ntmps6
  go_wp2_with fail
  (with_reducible refine (CWK.out _).mono ?_)
  rintro e w1 ⟨co, cc, rfl, hco, q⟩
  have HQ := Lib.hid q
  clear CWK q
  obtain ⟨b1, hb1⟩ : ∃ b1, w1.heap.size = b1 := ⟨_, rfl⟩
  obtain ⟨g1', hg1⟩ : ∃ g1', b1 + 1 = g1' := ⟨_, rfl⟩
  obtain ⟨g2', hg2⟩ : ∃ g2', g1' + 1 = g2' := ⟨_, rfl⟩
  obtain ⟨b2, hb2⟩ : ∃ b2, g2' + 1 = b2 := ⟨_, rfl⟩
  obtain ⟨w2, hw2⟩ : ∃ w2, (((w1.alloc (.cells #[.int .i64 7, .int .i64 1, .slice co 1 cc, .slice none 0 0] 25)).alloc (.cells #[.int .i64 5, .int .i64 6] 38)).alloc (.cells #[.int .i64 3, .slice (some ⟨g1', 0, none⟩) 1 1] 50)).alloc (.cells #[.int .i64 0, .int .i64 0, .slice none 0 0, .slice (some ⟨g2', 0, none⟩) 1 1] 25) = w2 := ⟨_, rfl⟩
  have K2 : Below w1.heap.size w1 w2 := by rw [← hw2]; exact ((((Below.refl _ w1).alloc (Nat.le_refl _) _).alloc (by simp) _).alloc (by simp; omega) _).alloc (by simp; omega) _
  have a : ∀ (W : World) (o : Obj) (j : Nat), j < W.heap.size → (W.alloc o).heap[j]? = W.heap[j]? := fun W o j hj => Below.heap_alloc W o j hj
  have h1 : w2.heap[b1]? = some (.cells #[.int .i64 7, .int .i64 1, .slice co 1 cc, .slice none 0 0] 25 (0, 0)) := by
    rw [← hw2, a _ _ _ (by simp; omega), a _ _ _ (by simp; omega), a _ _ _ (by simp; omega)]; exact heap_at hb1
  have h2 : w2.heap[g1']? = some (.cells #[.int .i64 5, .int .i64 6] 38 (0, 0)) := by
    rw [← hw2, a _ _ _ (by simp; omega), a _ _ _ (by simp; omega)]; exact heap_at (by simp; omega)
  have h3 : w2.heap[g2']? = some (.cells #[.int .i64 3, .slice (some ⟨g1', 0, none⟩) 1 1] 50 (0, 0)) := by
    rw [← hw2, a _ _ _ (by simp; omega)]; exact heap_at (by simp; omega)
  have h4 : w2.heap[b2]? = some (.cells #[.int .i64 0, .int .i64 0, .slice none 0 0, .slice (some ⟨g2', 0, none⟩) 1 1] 25 (0, 0)) := by
    rw [← hw2]; exact heap_at (by simp; omega)
  have HW : Hid (Aw w w2 b1 b2 co cc (some ⟨g2', 0, none⟩) 1) := Lib.hid ⟨HQ.out.trans (K2.mono HQ.out.size), weeks_at' (hco.out.keep K2), alone_at h2 h3, h1, h4⟩
  clear h1 h2 h3 h4 a K2
  go_upto_region 3 with fail
  clear hb1 hg1 hg2 hb2 hw2 HQ hco
  have CA9 : Hid (∀ W, Aw w W b1 b2 co cc (some ⟨g2', 0, none⟩) 1 → Calls Tryz.prog 8 #[.agg #[.int .i64 7, .int .i64 1, .slice co 1 cc, .slice none 0 0], .int .i64 9] W fun e w' => e = .returned (.tuple #[.int .i64 1, .bool true]) ∧ Hid (Below W.heap.size W w')) := Lib.hid (fun W h => (at_any (weeksF 7 [] co cc none 0) 9 W h.a1 (rt_weeks co cc none 0) (okW co cc) (show 1 ≤ 10000 by decide) (by decide) (by decide)).mono (by
    rintro e w' ⟨⟨i, ok, rfl, hi⟩, q⟩
    obtain ⟨rfl, rfl⟩ := ex_at9 hi
    exact ⟨rfl, q⟩))
  have CA5 : Hid (∀ W, Aw w W b1 b2 co cc (some ⟨g2', 0, none⟩) 1 → Calls Tryz.prog 8 #[.agg #[.int .i64 7, .int .i64 1, .slice co 1 cc, .slice none 0 0], .int .i64 5] W fun e w' => e = .returned (.tuple #[.int .i64 0, .bool false]) ∧ Hid (Below W.heap.size W w')) := Lib.hid (fun W h => (at_any (weeksF 7 [] co cc none 0) 5 W h.a1 (rt_weeks co cc none 0) (okW co cc) (show 1 ≤ 10000 by decide) (by decide) (by decide)).mono (by
    rintro e w' ⟨⟨i, ok, rfl, hi⟩, q⟩
    obtain ⟨rfl, rfl⟩ := ex_at5 hi
    exact ⟨rfl, q⟩))
  have CF5 : Hid (∀ W, Aw w W b1 b2 co cc (some ⟨g2', 0, none⟩) 1 → Calls Tryz.prog 10 #[.agg #[.int .i64 7, .int .i64 1, .slice co 1 cc, .slice none 0 0], .int .i64 5] W fun e w' => e = .returned (.tuple #[.int .i64 1, .bool true]) ∧ Hid (Below W.heap.size W w')) := Lib.hid (fun W h => (from_any (weeksF 7 [] co cc none 0) 5 W h.a1 (rt_weeks co cc none 0) (okW co cc) (show 1 ≤ 10000 by decide) (by decide) (by decide)).mono (by
    rintro e w' ⟨⟨i, ok, rfl, hi⟩, q⟩
    obtain ⟨rfl, rfl⟩ := ex_from5 hi
    exact ⟨rfl, q⟩))
  have CT5 : Hid (∀ W, Aw w W b1 b2 co cc (some ⟨g2', 0, none⟩) 1 → Calls Tryz.prog 12 #[.agg #[.int .i64 7, .int .i64 1, .slice co 1 cc, .slice none 0 0], .int .i64 5] W fun e w' => e = .returned (.tuple #[.int .i64 0, .bool true]) ∧ Hid (Below W.heap.size W w')) := Lib.hid (fun W h => (till_any (weeksF 7 [] co cc none 0) 5 W h.a1 (rt_weeks co cc none 0) (okW co cc) (show 1 ≤ 10000 by decide) (by decide) (by decide)).mono (by
    rintro e w' ⟨⟨i, ok, rfl, hi⟩, q⟩
    obtain ⟨rfl, rfl⟩ := ex_till5 hi
    exact ⟨rfl, q⟩))
  have CF7 : Hid (∀ W, Aw w W b1 b2 co cc (some ⟨g2', 0, none⟩) 1 → Calls Tryz.prog 10 #[.agg #[.int .i64 0, .int .i64 0, .slice none 0 0, .slice (some ⟨g2', 0, none⟩) 1 1], .int .i64 7] W fun e w' => e = .returned (.tuple #[.int .i64 0, .bool false]) ∧ Hid (Below W.heap.size W w')) := Lib.hid (fun W h => (from_any (aloneF (some ⟨g2', 0, none⟩) 1) 7 W h.a2 (rt_alone (some ⟨g2', 0, none⟩) 1) (okA (some ⟨g2', 0, none⟩) 1) (show 0 ≤ 10000 by decide) (by decide) (by decide)).mono (by
    rintro e w' ⟨⟨i, ok, rfl, hi⟩, q⟩
    obtain ⟨rfl, rfl⟩ := ex_from7 hi
    exact ⟨rfl, q⟩))
  have CT1 : Hid (∀ W, Aw w W b1 b2 co cc (some ⟨g2', 0, none⟩) 1 → Calls Tryz.prog 12 #[.agg #[.int .i64 0, .int .i64 0, .slice none 0 0, .slice (some ⟨g2', 0, none⟩) 1 1], .int .i64 100] W fun e w' => e = .returned (.tuple #[.int .i64 3, .bool true]) ∧ Hid (Below W.heap.size W w')) := Lib.hid (fun W h => (till_any (aloneF (some ⟨g2', 0, none⟩) 1) 100 W h.a2 (rt_alone (some ⟨g2', 0, none⟩) 1) (okA (some ⟨g2', 0, none⟩) 1) (show 0 ≤ 10000 by decide) (by decide) (by decide)).mono (by
    rintro e w' ⟨⟨i, ok, rfl, hi⟩, q⟩
    obtain ⟨rfl, rfl⟩ := ex_till100 hi
    exact ⟨rfl, q⟩))
  have CO1 : Hid (∀ W g, Aw w W b1 b2 co cc (some ⟨g2', 0, none⟩) 1 → W.heap[g]? = some (.cells #[.int .i64 3, .int .i64 8] 38 (0, 0)) → Calls Tryz.prog 16 #[.agg #[.int .i64 7, .int .i64 1, .slice co 1 cc, .slice none 0 0], .slice (some ⟨g, 0, none⟩) 1 1] W fun e w' => ∃ vo vc, e = .returned (.tuple #[.slice vo 2 vc, .int .i64 0]) ∧ Hid (IzAt w' vo 2 vc [0, 1]) ∧ Hid (Below W.heap.size W w')) := Lib.hid (fun W g h k => (over_any (weeksF 7 [] co cc none 0) (some ⟨g, 0, none⟩) 1 1 [(3, 8)] W h.a1 (rt_weeks co cc none 0) (okW co cc) (show 1 ≤ 10000 by decide) (sp_one k) (by decide)).mono (by
    rintro e w' ⟨⟨v, xs, k, rfl, ho, hw⟩, q⟩
    obtain ⟨rfl, rfl⟩ := ex_over38 ho
    obtain ⟨vo, vc, rfl, hz⟩ := own_iz hw
    exact ⟨vo, vc, rfl, Lib.hid hz, q⟩))
  have CO2 : Hid (∀ W g, Aw w W b1 b2 co cc (some ⟨g2', 0, none⟩) 1 → W.heap[g]? = some (.cells #[.int .i64 5, .int .i64 6] 38 (0, 0)) → Calls Tryz.prog 16 #[.agg #[.int .i64 7, .int .i64 1, .slice co 1 cc, .slice none 0 0], .slice (some ⟨g, 0, none⟩) 1 1] W fun e w' => ∃ vo vc, e = .returned (.tuple #[.slice vo 0 vc, .int .i64 0]) ∧ Hid (IzAt w' vo 0 vc []) ∧ Hid (Below W.heap.size W w')) := Lib.hid (fun W g h k => (over_any (weeksF 7 [] co cc none 0) (some ⟨g, 0, none⟩) 1 1 [(5, 6)] W h.a1 (rt_weeks co cc none 0) (okW co cc) (show 1 ≤ 10000 by decide) (sp_one k) (by decide)).mono (by
    rintro e w' ⟨⟨v, xs, k, rfl, ho, hw⟩, q⟩
    obtain ⟨rfl, rfl⟩ := ex_over56 ho
    obtain ⟨vo, vc, rfl, hz⟩ := own_iz hw
    exact ⟨vo, vc, rfl, Lib.hid hz, q⟩))
  have CIS : Hid (∀ want ok W, Calls Tryz.prog 23 #[.int .i64 want, .bool ok] W fun e w' => ∃ x y, e = .returned (.func (.func 54) #[] #[.pointer (some ⟨x, 0, none⟩), .pointer (some ⟨y, 0, none⟩)]) ∧ Hid (w'.cell? ⟨x, 0, none⟩ = some (.int .i64 want) ∧ w'.cell? ⟨y, 0, none⟩ = some (.bool ok)) ∧ Hid (Below W.heap.size W w')) := Lib.hid (fun want ok W => isClo_any want ok W)
  have CIC : Hid (∀ i k x y W, W.cell? ⟨x, 0, none⟩ = some (.int .i64 i) → W.cell? ⟨y, 0, none⟩ = some (.bool k) → Calls Tryz.prog 54 #[.int .i64 i, .bool k, .pointer (some ⟨x, 0, none⟩), .pointer (some ⟨y, 0, none⟩)] W fun e w' => e = .returned (.bool true) ∧ w' = W) := Lib.hid (fun i k x y W h1 h2 => isC_any i k i k x y W h1 h2 true ⟨fun _ => ⟨rfl, rfl⟩, fun _ => rfl⟩)
  obtain ⟨s2, hs2⟩ : ∃ s, w2.heap.size = s := ⟨_, rfl⟩
  obtain ⟨a2, ha2⟩ : ∃ a, w2.alloc (.cells #[.int .i64 3, .int .i64 8] 38) = a := ⟨_, rfl⟩
  have KA : Below w2.heap.size w2 a2 := by rw [← ha2]; exact (Below.refl _ _).alloc (Nat.le_refl _) _
  have HG : Hid (a2.heap[s2]? = some (.cells #[.int .i64 3, .int .i64 8] 38 (0, 0))) := Lib.hid (by rw [← ha2]; exact heap_at hs2)
  have e0 : w2.cell? ⟨b1, 0, none⟩ = some (.int .i64 7) := cell_block HW.out.h1 0
  have e1 : w2.cell? ⟨b1, 1, none⟩ = some (.int .i64 1) := cell_block HW.out.h1 1
  have e2 : w2.cell? ⟨b1, 2, none⟩ = some (.slice co 1 cc) := cell_block HW.out.h1 2
  have e3 : w2.cell? ⟨b1, 3, none⟩ = some (.slice none 0 0) := cell_block HW.out.h1 3
  have g0 : w2.cell? ⟨b2, 0, none⟩ = some (.int .i64 0) := cell_block HW.out.h2 0
  have g1 : w2.cell? ⟨b2, 1, none⟩ = some (.int .i64 0) := cell_block HW.out.h2 1
  have g2 : w2.cell? ⟨b2, 2, none⟩ = some (.slice none 0 0) := cell_block HW.out.h2 2
  have g3 : w2.cell? ⟨b2, 3, none⟩ = some (.slice (some ⟨g2', 0, none⟩) 1 1) := cell_block HW.out.h2 3
  go_wp2_with fail
  clear e0 e1 e2 e3 g0 g1 g2 g3
  have HW := Lib.hid (HW.out.keep KA)
  clear hs2 ha2 KA
  (with_reducible refine (CO1.out _ _ HW.out HG.out).mono ?_)
  rintro e w3 ⟨vo2, vc2, rfl, HZ1, q⟩
  have HW := Lib.hid (HW.out.keep q.out)
  clear HG q
  obtain ⟨s3, hs3⟩ : ∃ s, w3.heap.size = s := ⟨_, rfl⟩
  obtain ⟨a3, ha3⟩ : ∃ a, w3.alloc (.cells #[.int .i64 5, .int .i64 6] 38) = a := ⟨_, rfl⟩
  have KA : Below w3.heap.size w3 a3 := by rw [← ha3]; exact (Below.refl _ _).alloc (Nat.le_refl _) _
  have HG : Hid (a3.heap[s3]? = some (.cells #[.int .i64 5, .int .i64 6] 38 (0, 0))) := Lib.hid (by rw [← ha3]; exact heap_at hs3)
  have e0 : w3.cell? ⟨b1, 0, none⟩ = some (.int .i64 7) := cell_block HW.out.h1 0
  have e1 : w3.cell? ⟨b1, 1, none⟩ = some (.int .i64 1) := cell_block HW.out.h1 1
  have e2 : w3.cell? ⟨b1, 2, none⟩ = some (.slice co 1 cc) := cell_block HW.out.h1 2
  have e3 : w3.cell? ⟨b1, 3, none⟩ = some (.slice none 0 0) := cell_block HW.out.h1 3
  have g0 : w3.cell? ⟨b2, 0, none⟩ = some (.int .i64 0) := cell_block HW.out.h2 0
  have g1 : w3.cell? ⟨b2, 1, none⟩ = some (.int .i64 0) := cell_block HW.out.h2 1
  have g2 : w3.cell? ⟨b2, 2, none⟩ = some (.slice none 0 0) := cell_block HW.out.h2 2
  have g3 : w3.cell? ⟨b2, 3, none⟩ = some (.slice (some ⟨g2', 0, none⟩) 1 1) := cell_block HW.out.h2 3
  go_wp2_with fail
  clear e0 e1 e2 e3 g0 g1 g2 g3
  have HW := Lib.hid (HW.out.keep KA)
  have HZ1 := Lib.hid (HZ1.out.keep KA)
  clear hs3 ha3 KA
  (with_reducible refine (CO2.out _ _ HW.out HG.out).mono ?_)
  rintro e w4 ⟨vo3, vc3, rfl, HZ2, q⟩
  have HW := Lib.hid (HW.out.keep q.out)
  have HZ1 := Lib.hid (HZ1.out.keep q.out)
  clear HG q
  have HS : Hid (∀ W, Aw w W b1 b2 co cc (some ⟨g2', 0, none⟩) 1 → IzAt W vo2 2 vc2 [0, 1] → W.cell? ⟨b1, 0, none⟩ = some (.int .i64 7) ∧ W.cell? ⟨b1, 1, none⟩ = some (.int .i64 1) ∧ W.cell? ⟨b1, 2, none⟩ = some (.slice co 1 cc) ∧ W.cell? ⟨b1, 3, none⟩ = some (.slice none 0 0) ∧ W.cell? ⟨b2, 0, none⟩ = some (.int .i64 0) ∧ W.cell? ⟨b2, 1, none⟩ = some (.int .i64 0) ∧ W.cell? ⟨b2, 2, none⟩ = some (.slice none 0 0) ∧ W.cell? ⟨b2, 3, none⟩ = some ((.slice (some ⟨g2', 0, none⟩) 1 1)) ∧ Hid (Aw w W b1 b2 co cc (some ⟨g2', 0, none⟩) 1 ∧ IzAt W vo2 2 vc2 [0, 1])) := Lib.hid (fun W h k => ⟨cell_block h.h1 0, cell_block h.h1 1, cell_block h.h1 2, cell_block h.h1 3, cell_block h.h2 0, cell_block h.h2 1, cell_block h.h2 2, cell_block h.h2 3, Lib.hid ⟨h, k⟩⟩)
  go_upto_region 5 with fail
  refine wp_region_held_drew (S := (fun W => W.cell? ⟨b1, 0, none⟩ = some (.int .i64 7) ∧ W.cell? ⟨b1, 1, none⟩ = some (.int .i64 1) ∧ W.cell? ⟨b1, 2, none⟩ = some (.slice co 1 cc) ∧ W.cell? ⟨b1, 3, none⟩ = some (.slice none 0 0) ∧ W.cell? ⟨b2, 0, none⟩ = some (.int .i64 0) ∧ W.cell? ⟨b2, 1, none⟩ = some (.int .i64 0) ∧ W.cell? ⟨b2, 2, none⟩ = some (.slice none 0 0) ∧ W.cell? ⟨b2, 3, none⟩ = some ((.slice (some ⟨g2', 0, none⟩) 1 1)) ∧ Hid (Aw w W b1 b2 co cc (some ⟨g2', 0, none⟩) 1 ∧ IzAt W vo2 2 vc2 [0, 1]))) (by kernel_rfl) ?_ (fun hHeld => ?_)
  · exact HS.out _ (HW.out.keep (Below.refl _ _).drew) (HZ1.out.keep (Below.refl _ _).drew)
  refine wpAnyH_take (i := 1) (oi := _) (v := ?_) rfl (by kernel_rfl) (by kernel_rfl) (by kernel_rfl) (fun _ _ _ h => h) (Or.inl ⟨by kernel_rfl, ?_⟩) (by assumption) ?_
  rotate_left 1
  focus (intro wq hSw; (try dsimp only at hSw); obtain ⟨s0, s1, s2, s3, s4, s5, s6, s7, s8⟩ := hSw; go_simp; (try with_reducible rfl); done)
  try simp only [List.append_eq, List.cons_append, List.nil_append, List.getElem_toArray, List.getElem_cons_zero, List.getElem_cons_succ, Act.put, List.setIfInBounds_toArray, List.set_cons_zero, List.set_cons_succ]
  refine wpAnyH_ready (rs := [0]) (by kernel_rfl) (by simp) ?_
  refine AllReadyH.cons (o := _) rfl (fun K hK => ?_) AllReadyH.nil
  rw [if_pos (by kernel_rfl)]
  go_simp
  (go_at_call 23; (with_reducible refine (CIS.out 1 true _).mono ?_); rintro e z1 ⟨x, y, rfl, HXY, q⟩; have q := q.out)
  first | refine hK.out _ _ ?_ (fun hHeld => ?_) | (go_wp2_with fail; refine hK.out _ _ ?_ (fun hHeld => ?_))
  · exact HS.out _ (hHeld.2.2.2.2.2.2.2.2.out.1.keep q) (hHeld.2.2.2.2.2.2.2.2.out.2.keep q)
  clear hK K
  try simp only [List.append_eq, List.cons_append, List.nil_append, List.getElem_toArray, List.getElem_cons_zero, List.getElem_cons_succ, Act.put, List.setIfInBounds_toArray, List.set_cons_zero, List.set_cons_succ]
  refine wpAnyH_ready (rs := [2]) (by kernel_rfl) (by simp) ?_
  refine AllReadyH.cons (o := _) rfl (fun K hK => ?_) AllReadyH.nil
  rw [if_pos (by kernel_rfl)]
  go_simp
  (go_at_call 8; (with_reducible refine (CA9.out _ hHeld.2.2.2.2.2.2.2.2.out.1).mono ?_); rintro e z2 ⟨rfl, q⟩; have q := q.out; have HXY := Lib.hid (⟨cell_keep HXY.out.1 q, cell_keep HXY.out.2 q⟩ : _ ∧ _))
  first | refine hK.out _ _ ?_ (fun hHeld => ?_) | (go_wp2_with fail; refine hK.out _ _ ?_ (fun hHeld => ?_))
  · exact HS.out _ (hHeld.2.2.2.2.2.2.2.2.out.1.keep q) (hHeld.2.2.2.2.2.2.2.2.out.2.keep q)
  clear hK K
  try simp only [List.append_eq, List.cons_append, List.nil_append, List.getElem_toArray, List.getElem_cons_zero, List.getElem_cons_succ, Act.put, List.setIfInBounds_toArray, List.set_cons_zero, List.set_cons_succ]
  refine wpAnyH_take (i := 3) (oi := _) (v := ?_) rfl (by kernel_rfl) (by kernel_rfl) (by kernel_rfl) (fun _ _ _ h => h) (Or.inl ⟨by kernel_rfl, ?_⟩) (by assumption) ?_
  rotate_left 1
  focus (intro wq hSw; (try dsimp only at hSw); obtain ⟨s0, s1, s2, s3, s4, s5, s6, s7, s8⟩ := hSw; go_simp; (try with_reducible rfl); done)
  try simp only [List.append_eq, List.cons_append, List.nil_append, List.getElem_toArray, List.getElem_cons_zero, List.getElem_cons_succ, Act.put, List.setIfInBounds_toArray, List.set_cons_zero, List.set_cons_succ]
  refine wpAnyH_take (i := 4) (oi := _) (v := ?_) rfl (by kernel_rfl) (by kernel_rfl) (by kernel_rfl) (fun _ _ _ h => h) (Or.inl ⟨by kernel_rfl, ?_⟩) (by assumption) ?_
  rotate_left 1
  focus (intro wq hSw; (try dsimp only at hSw); obtain ⟨s0, s1, s2, s3, s4, s5, s6, s7, s8⟩ := hSw; go_simp; (try with_reducible rfl); done)
  try simp only [List.append_eq, List.cons_append, List.nil_append, List.getElem_toArray, List.getElem_cons_zero, List.getElem_cons_succ, Act.put, List.setIfInBounds_toArray, List.set_cons_zero, List.set_cons_succ]
  refine wpAnyH_ready (rs := [5]) (by kernel_rfl) (by simp) ?_
  refine AllReadyH.cons (o := _) rfl (fun K hK => ?_) AllReadyH.nil
  rw [if_pos (by kernel_rfl)]
  go_simp
  (go_at_call 54; (with_reducible refine (CIC.out 1 true x y _ HXY.out.1 HXY.out.2).mono ?_); rintro e zz ⟨rfl, hzz⟩; subst hzz; have q := Below.refl zz.heap.size zz; clear HXY)
  first | refine hK.out _ _ ?_ (fun hHeld => ?_) | (go_wp2_with fail; refine hK.out _ _ ?_ (fun hHeld => ?_))
  · exact HS.out _ (hHeld.2.2.2.2.2.2.2.2.out.1.keep q) (hHeld.2.2.2.2.2.2.2.2.out.2.keep q)
  clear hK K
  try simp only [List.append_eq, List.cons_append, List.nil_append, List.getElem_toArray, List.getElem_cons_zero, List.getElem_cons_succ, Act.put, List.setIfInBounds_toArray, List.set_cons_zero, List.set_cons_succ]
  refine wpAnyH_take (i := 6) (oi := _) (v := ?_) rfl (by kernel_rfl) (by kernel_rfl) (by kernel_rfl) (fun _ _ _ h => h) (Or.inl ⟨by kernel_rfl, ?_⟩) (by assumption) ?_
  rotate_left 1
  focus (intro wq hSw; (try dsimp only at hSw); obtain ⟨s0, s1, s2, s3, s4, s5, s6, s7, s8⟩ := hSw; go_simp; (try with_reducible rfl); done)
  try simp only [List.append_eq, List.cons_append, List.nil_append, List.getElem_toArray, List.getElem_cons_zero, List.getElem_cons_succ, Act.put, List.setIfInBounds_toArray, List.set_cons_zero, List.set_cons_succ]
  refine wpAnyH_take (i := 8) (oi := _) (v := ?_) rfl (by kernel_rfl) (by kernel_rfl) (by kernel_rfl) (fun _ _ _ h => h) (Or.inl ⟨by kernel_rfl, ?_⟩) (by assumption) ?_
  rotate_left 1
  focus (intro wq hSw; (try dsimp only at hSw); obtain ⟨s0, s1, s2, s3, s4, s5, s6, s7, s8⟩ := hSw; go_simp; (try with_reducible rfl); done)
  try simp only [List.append_eq, List.cons_append, List.nil_append, List.getElem_toArray, List.getElem_cons_zero, List.getElem_cons_succ, Act.put, List.setIfInBounds_toArray, List.set_cons_zero, List.set_cons_succ]
  refine wpAnyH_ready (rs := [7]) (by kernel_rfl) (by simp) ?_
  refine AllReadyH.cons (o := _) rfl (fun K hK => ?_) AllReadyH.nil
  rw [if_pos (by kernel_rfl)]
  go_simp
  (go_at_call 23; (with_reducible refine (CIS.out 0 false _).mono ?_); rintro e z3 ⟨x, y, rfl, HXY, q⟩; have q := q.out)
  first | refine hK.out _ _ ?_ (fun hHeld => ?_) | (go_wp2_with fail; refine hK.out _ _ ?_ (fun hHeld => ?_))
  · exact HS.out _ (hHeld.2.2.2.2.2.2.2.2.out.1.keep q) (hHeld.2.2.2.2.2.2.2.2.out.2.keep q)
  clear hK K
  try simp only [List.append_eq, List.cons_append, List.nil_append, List.getElem_toArray, List.getElem_cons_zero, List.getElem_cons_succ, Act.put, List.setIfInBounds_toArray, List.set_cons_zero, List.set_cons_succ]
  refine wpAnyH_ready (rs := [9]) (by kernel_rfl) (by simp) ?_
  refine AllReadyH.cons (o := _) rfl (fun K hK => ?_) AllReadyH.nil
  rw [if_pos (by kernel_rfl)]
  go_simp
  (go_at_call 8; (with_reducible refine (CA5.out _ hHeld.2.2.2.2.2.2.2.2.out.1).mono ?_); rintro e z4 ⟨rfl, q⟩; have q := q.out; have HXY := Lib.hid (⟨cell_keep HXY.out.1 q, cell_keep HXY.out.2 q⟩ : _ ∧ _))
  first | refine hK.out _ _ ?_ (fun hHeld => ?_) | (go_wp2_with fail; refine hK.out _ _ ?_ (fun hHeld => ?_))
  · exact HS.out _ (hHeld.2.2.2.2.2.2.2.2.out.1.keep q) (hHeld.2.2.2.2.2.2.2.2.out.2.keep q)
  clear hK K
  try simp only [List.append_eq, List.cons_append, List.nil_append, List.getElem_toArray, List.getElem_cons_zero, List.getElem_cons_succ, Act.put, List.setIfInBounds_toArray, List.set_cons_zero, List.set_cons_succ]
  refine wpAnyH_take (i := 10) (oi := _) (v := ?_) rfl (by kernel_rfl) (by kernel_rfl) (by kernel_rfl) (fun _ _ _ h => h) (Or.inl ⟨by kernel_rfl, ?_⟩) (by assumption) ?_
  rotate_left 1
  focus (intro wq hSw; (try dsimp only at hSw); obtain ⟨s0, s1, s2, s3, s4, s5, s6, s7, s8⟩ := hSw; go_simp; (try with_reducible rfl); done)
  try simp only [List.append_eq, List.cons_append, List.nil_append, List.getElem_toArray, List.getElem_cons_zero, List.getElem_cons_succ, Act.put, List.setIfInBounds_toArray, List.set_cons_zero, List.set_cons_succ]
  refine wpAnyH_take (i := 11) (oi := _) (v := ?_) rfl (by kernel_rfl) (by kernel_rfl) (by kernel_rfl) (fun _ _ _ h => h) (Or.inl ⟨by kernel_rfl, ?_⟩) (by assumption) ?_
  rotate_left 1
  focus (intro wq hSw; (try dsimp only at hSw); obtain ⟨s0, s1, s2, s3, s4, s5, s6, s7, s8⟩ := hSw; go_simp; (try with_reducible rfl); done)
  try simp only [List.append_eq, List.cons_append, List.nil_append, List.getElem_toArray, List.getElem_cons_zero, List.getElem_cons_succ, Act.put, List.setIfInBounds_toArray, List.set_cons_zero, List.set_cons_succ]
  refine wpAnyH_ready (rs := [12]) (by kernel_rfl) (by simp) ?_
  refine AllReadyH.cons (o := _) rfl (fun K hK => ?_) AllReadyH.nil
  rw [if_pos (by kernel_rfl)]
  go_simp
  (go_at_call 54; (with_reducible refine (CIC.out 0 false x y _ HXY.out.1 HXY.out.2).mono ?_); rintro e zz ⟨rfl, hzz⟩; subst hzz; have q := Below.refl zz.heap.size zz; clear HXY)
  first | refine hK.out _ _ ?_ (fun hHeld => ?_) | (go_wp2_with fail; refine hK.out _ _ ?_ (fun hHeld => ?_))
  · exact HS.out _ (hHeld.2.2.2.2.2.2.2.2.out.1.keep q) (hHeld.2.2.2.2.2.2.2.2.out.2.keep q)
  clear hK K
  try simp only [List.append_eq, List.cons_append, List.nil_append, List.getElem_toArray, List.getElem_cons_zero, List.getElem_cons_succ, Act.put, List.setIfInBounds_toArray, List.set_cons_zero, List.set_cons_succ]
  refine wpAnyH_take (i := 13) (oi := _) (v := ?_) rfl (by kernel_rfl) (by kernel_rfl) (by kernel_rfl) (fun _ _ _ h => h) (Or.inl ⟨by kernel_rfl, ?_⟩) (by assumption) ?_
  rotate_left 1
  focus (intro wq hSw; (try dsimp only at hSw); obtain ⟨s0, s1, s2, s3, s4, s5, s6, s7, s8⟩ := hSw; go_simp; (try with_reducible rfl); done)
  try simp only [List.append_eq, List.cons_append, List.nil_append, List.getElem_toArray, List.getElem_cons_zero, List.getElem_cons_succ, Act.put, List.setIfInBounds_toArray, List.set_cons_zero, List.set_cons_succ]
  refine wpAnyH_take (i := 14) (oi := _) (v := ?_) rfl (by kernel_rfl) (by kernel_rfl) (by kernel_rfl) (fun _ _ _ h => h) (Or.inl ⟨by kernel_rfl, ?_⟩) (by assumption) ?_
  rotate_left 1
  focus (intro wq hSw; (try dsimp only at hSw); obtain ⟨s0, s1, s2, s3, s4, s5, s6, s7, s8⟩ := hSw; go_simp; (try with_reducible rfl); done)
  try simp only [List.append_eq, List.cons_append, List.nil_append, List.getElem_toArray, List.getElem_cons_zero, List.getElem_cons_succ, Act.put, List.setIfInBounds_toArray, List.set_cons_zero, List.set_cons_succ]
  refine wpAnyH_take (i := 16) (oi := _) (v := ?_) rfl (by kernel_rfl) (by kernel_rfl) (by kernel_rfl) (fun _ _ _ h => h) (Or.inl ⟨by kernel_rfl, ?_⟩) (by assumption) ?_
  rotate_left 1
  focus (intro wq hSw; (try dsimp only at hSw); obtain ⟨s0, s1, s2, s3, s4, s5, s6, s7, s8⟩ := hSw; go_simp; (try with_reducible rfl); done)
  try simp only [List.append_eq, List.cons_append, List.nil_append, List.getElem_toArray, List.getElem_cons_zero, List.getElem_cons_succ, Act.put, List.setIfInBounds_toArray, List.set_cons_zero, List.set_cons_succ]
  refine wpAnyH_ready (rs := [15]) (by kernel_rfl) (by simp) ?_
  refine AllReadyH.cons (o := _) rfl (fun K hK => ?_) AllReadyH.nil
  rw [if_pos (by kernel_rfl)]
  go_simp
  (go_at_call 23; (with_reducible refine (CIS.out 1 true _).mono ?_); rintro e z5 ⟨x, y, rfl, HXY, q⟩; have q := q.out)
  first | refine hK.out _ _ ?_ (fun hHeld => ?_) | (go_wp2_with fail; refine hK.out _ _ ?_ (fun hHeld => ?_))
  · exact HS.out _ (hHeld.2.2.2.2.2.2.2.2.out.1.keep q) (hHeld.2.2.2.2.2.2.2.2.out.2.keep q)
  clear hK K
  try simp only [List.append_eq, List.cons_append, List.nil_append, List.getElem_toArray, List.getElem_cons_zero, List.getElem_cons_succ, Act.put, List.setIfInBounds_toArray, List.set_cons_zero, List.set_cons_succ]
  refine wpAnyH_ready (rs := [17]) (by kernel_rfl) (by simp) ?_
  refine AllReadyH.cons (o := _) rfl (fun K hK => ?_) AllReadyH.nil
  rw [if_pos (by kernel_rfl)]
  go_simp
  (go_at_call 10; (with_reducible refine (CF5.out _ hHeld.2.2.2.2.2.2.2.2.out.1).mono ?_); rintro e z6 ⟨rfl, q⟩; have q := q.out; have HXY := Lib.hid (⟨cell_keep HXY.out.1 q, cell_keep HXY.out.2 q⟩ : _ ∧ _))
  first | refine hK.out _ _ ?_ (fun hHeld => ?_) | (go_wp2_with fail; refine hK.out _ _ ?_ (fun hHeld => ?_))
  · exact HS.out _ (hHeld.2.2.2.2.2.2.2.2.out.1.keep q) (hHeld.2.2.2.2.2.2.2.2.out.2.keep q)
  clear hK K
  try simp only [List.append_eq, List.cons_append, List.nil_append, List.getElem_toArray, List.getElem_cons_zero, List.getElem_cons_succ, Act.put, List.setIfInBounds_toArray, List.set_cons_zero, List.set_cons_succ]
  refine wpAnyH_take (i := 18) (oi := _) (v := ?_) rfl (by kernel_rfl) (by kernel_rfl) (by kernel_rfl) (fun _ _ _ h => h) (Or.inl ⟨by kernel_rfl, ?_⟩) (by assumption) ?_
  rotate_left 1
  focus (intro wq hSw; (try dsimp only at hSw); obtain ⟨s0, s1, s2, s3, s4, s5, s6, s7, s8⟩ := hSw; go_simp; (try with_reducible rfl); done)
  try simp only [List.append_eq, List.cons_append, List.nil_append, List.getElem_toArray, List.getElem_cons_zero, List.getElem_cons_succ, Act.put, List.setIfInBounds_toArray, List.set_cons_zero, List.set_cons_succ]
  refine wpAnyH_take (i := 19) (oi := _) (v := ?_) rfl (by kernel_rfl) (by kernel_rfl) (by kernel_rfl) (fun _ _ _ h => h) (Or.inl ⟨by kernel_rfl, ?_⟩) (by assumption) ?_
  rotate_left 1
  focus (intro wq hSw; (try dsimp only at hSw); obtain ⟨s0, s1, s2, s3, s4, s5, s6, s7, s8⟩ := hSw; go_simp; (try with_reducible rfl); done)
  try simp only [List.append_eq, List.cons_append, List.nil_append, List.getElem_toArray, List.getElem_cons_zero, List.getElem_cons_succ, Act.put, List.setIfInBounds_toArray, List.set_cons_zero, List.set_cons_succ]
  refine wpAnyH_ready (rs := [20]) (by kernel_rfl) (by simp) ?_
  refine AllReadyH.cons (o := _) rfl (fun K hK => ?_) AllReadyH.nil
  rw [if_pos (by kernel_rfl)]
  go_simp
  (go_at_call 54; (with_reducible refine (CIC.out 1 true x y _ HXY.out.1 HXY.out.2).mono ?_); rintro e zz ⟨rfl, hzz⟩; subst hzz; have q := Below.refl zz.heap.size zz; clear HXY)
  first | refine hK.out _ _ ?_ (fun hHeld => ?_) | (go_wp2_with fail; refine hK.out _ _ ?_ (fun hHeld => ?_))
  · exact HS.out _ (hHeld.2.2.2.2.2.2.2.2.out.1.keep q) (hHeld.2.2.2.2.2.2.2.2.out.2.keep q)
  clear hK K
  try simp only [List.append_eq, List.cons_append, List.nil_append, List.getElem_toArray, List.getElem_cons_zero, List.getElem_cons_succ, Act.put, List.setIfInBounds_toArray, List.set_cons_zero, List.set_cons_succ]
  refine wpAnyH_take (i := 21) (oi := _) (v := ?_) rfl (by kernel_rfl) (by kernel_rfl) (by kernel_rfl) (fun _ _ _ h => h) (Or.inl ⟨by kernel_rfl, ?_⟩) (by assumption) ?_
  rotate_left 1
  focus (intro wq hSw; (try dsimp only at hSw); obtain ⟨s0, s1, s2, s3, s4, s5, s6, s7, s8⟩ := hSw; go_simp; (try with_reducible rfl); done)
  try simp only [List.append_eq, List.cons_append, List.nil_append, List.getElem_toArray, List.getElem_cons_zero, List.getElem_cons_succ, Act.put, List.setIfInBounds_toArray, List.set_cons_zero, List.set_cons_succ]
  refine wpAnyH_take (i := 22) (oi := _) (v := ?_) rfl (by kernel_rfl) (by kernel_rfl) (by kernel_rfl) (fun _ _ _ h => h) (Or.inl ⟨by kernel_rfl, ?_⟩) (by assumption) ?_
  rotate_left 1
  focus (intro wq hSw; (try dsimp only at hSw); obtain ⟨s0, s1, s2, s3, s4, s5, s6, s7, s8⟩ := hSw; go_simp; (try with_reducible rfl); done)
  try simp only [List.append_eq, List.cons_append, List.nil_append, List.getElem_toArray, List.getElem_cons_zero, List.getElem_cons_succ, Act.put, List.setIfInBounds_toArray, List.set_cons_zero, List.set_cons_succ]
  refine wpAnyH_take (i := 24) (oi := _) (v := ?_) rfl (by kernel_rfl) (by kernel_rfl) (by kernel_rfl) (fun _ _ _ h => h) (Or.inl ⟨by kernel_rfl, ?_⟩) (by assumption) ?_
  rotate_left 1
  focus (intro wq hSw; (try dsimp only at hSw); obtain ⟨s0, s1, s2, s3, s4, s5, s6, s7, s8⟩ := hSw; go_simp; (try with_reducible rfl); done)
  try simp only [List.append_eq, List.cons_append, List.nil_append, List.getElem_toArray, List.getElem_cons_zero, List.getElem_cons_succ, Act.put, List.setIfInBounds_toArray, List.set_cons_zero, List.set_cons_succ]
  refine wpAnyH_ready (rs := [23]) (by kernel_rfl) (by simp) ?_
  refine AllReadyH.cons (o := _) rfl (fun K hK => ?_) AllReadyH.nil
  rw [if_pos (by kernel_rfl)]
  go_simp
  (go_at_call 23; (with_reducible refine (CIS.out 0 true _).mono ?_); rintro e z7 ⟨x, y, rfl, HXY, q⟩; have q := q.out)
  first | refine hK.out _ _ ?_ (fun hHeld => ?_) | (go_wp2_with fail; refine hK.out _ _ ?_ (fun hHeld => ?_))
  · exact HS.out _ (hHeld.2.2.2.2.2.2.2.2.out.1.keep q) (hHeld.2.2.2.2.2.2.2.2.out.2.keep q)
  clear hK K
  try simp only [List.append_eq, List.cons_append, List.nil_append, List.getElem_toArray, List.getElem_cons_zero, List.getElem_cons_succ, Act.put, List.setIfInBounds_toArray, List.set_cons_zero, List.set_cons_succ]
  refine wpAnyH_ready (rs := [25]) (by kernel_rfl) (by simp) ?_
  refine AllReadyH.cons (o := _) rfl (fun K hK => ?_) AllReadyH.nil
  rw [if_pos (by kernel_rfl)]
  go_simp
  (go_at_call 12; (with_reducible refine (CT5.out _ hHeld.2.2.2.2.2.2.2.2.out.1).mono ?_); rintro e z8 ⟨rfl, q⟩; have q := q.out; have HXY := Lib.hid (⟨cell_keep HXY.out.1 q, cell_keep HXY.out.2 q⟩ : _ ∧ _))
  first | refine hK.out _ _ ?_ (fun hHeld => ?_) | (go_wp2_with fail; refine hK.out _ _ ?_ (fun hHeld => ?_))
  · exact HS.out _ (hHeld.2.2.2.2.2.2.2.2.out.1.keep q) (hHeld.2.2.2.2.2.2.2.2.out.2.keep q)
  clear hK K
  try simp only [List.append_eq, List.cons_append, List.nil_append, List.getElem_toArray, List.getElem_cons_zero, List.getElem_cons_succ, Act.put, List.setIfInBounds_toArray, List.set_cons_zero, List.set_cons_succ]
  refine wpAnyH_take (i := 26) (oi := _) (v := ?_) rfl (by kernel_rfl) (by kernel_rfl) (by kernel_rfl) (fun _ _ _ h => h) (Or.inl ⟨by kernel_rfl, ?_⟩) (by assumption) ?_
  rotate_left 1
  focus (intro wq hSw; (try dsimp only at hSw); obtain ⟨s0, s1, s2, s3, s4, s5, s6, s7, s8⟩ := hSw; go_simp; (try with_reducible rfl); done)
  try simp only [List.append_eq, List.cons_append, List.nil_append, List.getElem_toArray, List.getElem_cons_zero, List.getElem_cons_succ, Act.put, List.setIfInBounds_toArray, List.set_cons_zero, List.set_cons_succ]
  refine wpAnyH_take (i := 27) (oi := _) (v := ?_) rfl (by kernel_rfl) (by kernel_rfl) (by kernel_rfl) (fun _ _ _ h => h) (Or.inl ⟨by kernel_rfl, ?_⟩) (by assumption) ?_
  rotate_left 1
  focus (intro wq hSw; (try dsimp only at hSw); obtain ⟨s0, s1, s2, s3, s4, s5, s6, s7, s8⟩ := hSw; go_simp; (try with_reducible rfl); done)
  try simp only [List.append_eq, List.cons_append, List.nil_append, List.getElem_toArray, List.getElem_cons_zero, List.getElem_cons_succ, Act.put, List.setIfInBounds_toArray, List.set_cons_zero, List.set_cons_succ]
  refine wpAnyH_ready (rs := [28]) (by kernel_rfl) (by simp) ?_
  refine AllReadyH.cons (o := _) rfl (fun K hK => ?_) AllReadyH.nil
  rw [if_pos (by kernel_rfl)]
  go_simp
  (go_at_call 54; (with_reducible refine (CIC.out 0 true x y _ HXY.out.1 HXY.out.2).mono ?_); rintro e zz ⟨rfl, hzz⟩; subst hzz; have q := Below.refl zz.heap.size zz; clear HXY)
  first | refine hK.out _ _ ?_ (fun hHeld => ?_) | (go_wp2_with fail; refine hK.out _ _ ?_ (fun hHeld => ?_))
  · exact HS.out _ (hHeld.2.2.2.2.2.2.2.2.out.1.keep q) (hHeld.2.2.2.2.2.2.2.2.out.2.keep q)
  clear hK K
  try simp only [List.append_eq, List.cons_append, List.nil_append, List.getElem_toArray, List.getElem_cons_zero, List.getElem_cons_succ, Act.put, List.setIfInBounds_toArray, List.set_cons_zero, List.set_cons_succ]
  refine wpAnyH_take (i := 29) (oi := _) (v := ?_) rfl (by kernel_rfl) (by kernel_rfl) (by kernel_rfl) (fun _ _ _ h => h) (Or.inl ⟨by kernel_rfl, ?_⟩) (by assumption) ?_
  rotate_left 1
  focus (intro wq hSw; (try dsimp only at hSw); obtain ⟨s0, s1, s2, s3, s4, s5, s6, s7, s8⟩ := hSw; go_simp; (try with_reducible rfl); done)
  try simp only [List.append_eq, List.cons_append, List.nil_append, List.getElem_toArray, List.getElem_cons_zero, List.getElem_cons_succ, Act.put, List.setIfInBounds_toArray, List.set_cons_zero, List.set_cons_succ]
  refine wpAnyH_take (i := 30) (oi := _) (v := ?_) rfl (by kernel_rfl) (by kernel_rfl) (by kernel_rfl) (fun _ _ _ h => h) (Or.inl ⟨by kernel_rfl, ?_⟩) (by assumption) ?_
  rotate_left 1
  focus (intro wq hSw; (try dsimp only at hSw); obtain ⟨s0, s1, s2, s3, s4, s5, s6, s7, s8⟩ := hSw; go_simp; (try with_reducible rfl); done)
  try simp only [List.append_eq, List.cons_append, List.nil_append, List.getElem_toArray, List.getElem_cons_zero, List.getElem_cons_succ, Act.put, List.setIfInBounds_toArray, List.set_cons_zero, List.set_cons_succ]
  refine wpAnyH_take (i := 31) (oi := _) (v := ?_) rfl (by kernel_rfl) (by kernel_rfl) (by kernel_rfl) (fun _ _ _ h => h) (Or.inl ⟨by kernel_rfl, ?_⟩) (by assumption) ?_
  rotate_left 1
  focus (intro wq hSw; (try dsimp only at hSw); obtain ⟨s0, s1, s2, s3, s4, s5, s6, s7, s8⟩ := hSw; go_simp; (try with_reducible rfl); done)
  try simp only [List.append_eq, List.cons_append, List.nil_append, List.getElem_toArray, List.getElem_cons_zero, List.getElem_cons_succ, Act.put, List.setIfInBounds_toArray, List.set_cons_zero, List.set_cons_succ]
  refine wpAnyH_take (i := 32) (oi := _) (v := ?_) rfl (by kernel_rfl) (by kernel_rfl) (by kernel_rfl) (fun _ _ _ h => h) (Or.inl ⟨by kernel_rfl, ?_⟩) (by assumption) ?_
  rotate_left 1
  focus (intro wq hSw; (try dsimp only at hSw); obtain ⟨s0, s1, s2, s3, s4, s5, s6, s7, s8⟩ := hSw; go_simp; (try with_reducible rfl); done)
  try simp only [List.append_eq, List.cons_append, List.nil_append, List.getElem_toArray, List.getElem_cons_zero, List.getElem_cons_succ, Act.put, List.setIfInBounds_toArray, List.set_cons_zero, List.set_cons_succ]
  refine wpAnyH_take (i := 33) (oi := _) (v := ?_) rfl (by kernel_rfl) (by kernel_rfl) (by kernel_rfl) (fun _ _ _ h => h) (Or.inl ⟨by kernel_rfl, ?_⟩) (by assumption) ?_
  rotate_left 1
  focus (intro wq hSw; (try dsimp only at hSw); obtain ⟨s0, s1, s2, s3, s4, s5, s6, s7, s8⟩ := hSw; go_simp; (try with_reducible rfl); done)
  try simp only [List.append_eq, List.cons_append, List.nil_append, List.getElem_toArray, List.getElem_cons_zero, List.getElem_cons_succ, Act.put, List.setIfInBounds_toArray, List.set_cons_zero, List.set_cons_succ]
  refine wpAnyH_take (i := 34) (oi := _) (v := ?_) rfl (by kernel_rfl) (by kernel_rfl) (by kernel_rfl) (fun _ _ _ h => h) (Or.inl ⟨by kernel_rfl, ?_⟩) (by assumption) ?_
  rotate_left 1
  focus (intro wq hSw; (try dsimp only at hSw); obtain ⟨s0, s1, s2, s3, s4, s5, s6, s7, s8⟩ := hSw; go_simp; (try with_reducible rfl); done)
  try simp only [List.append_eq, List.cons_append, List.nil_append, List.getElem_toArray, List.getElem_cons_zero, List.getElem_cons_succ, Act.put, List.setIfInBounds_toArray, List.set_cons_zero, List.set_cons_succ]
  refine wpAnyH_take (i := 35) (oi := _) (v := ?_) rfl (by kernel_rfl) (by kernel_rfl) (by kernel_rfl) (fun _ _ _ h => h) (Or.inl ⟨by kernel_rfl, ?_⟩) (by assumption) ?_
  rotate_left 1
  focus (intro wq hSw; (try dsimp only at hSw); obtain ⟨s0, s1, s2, s3, s4, s5, s6, s7, s8⟩ := hSw; go_simp; (try with_reducible rfl); done)
  try simp only [List.append_eq, List.cons_append, List.nil_append, List.getElem_toArray, List.getElem_cons_zero, List.getElem_cons_succ, Act.put, List.setIfInBounds_toArray, List.set_cons_zero, List.set_cons_succ]
  refine wpAnyH_take (i := 36) (oi := _) (v := ?_) rfl (by kernel_rfl) (by kernel_rfl) (by kernel_rfl) (fun _ _ _ h => h) (Or.inl ⟨by kernel_rfl, ?_⟩) (by assumption) ?_
  rotate_left 1
  focus (intro wq hSw; (try dsimp only at hSw); obtain ⟨s0, s1, s2, s3, s4, s5, s6, s7, s8⟩ := hSw; go_simp; (try with_reducible rfl); done)
  try simp only [List.append_eq, List.cons_append, List.nil_append, List.getElem_toArray, List.getElem_cons_zero, List.getElem_cons_succ, Act.put, List.setIfInBounds_toArray, List.set_cons_zero, List.set_cons_succ]
  refine wpAnyH_take (i := 37) (oi := _) (v := ?_) rfl (by kernel_rfl) (by kernel_rfl) (by kernel_rfl) (fun _ _ _ h => h) (Or.inl ⟨by kernel_rfl, ?_⟩) (by assumption) ?_
  rotate_left 1
  focus (intro wq hSw; (try dsimp only at hSw); obtain ⟨s0, s1, s2, s3, s4, s5, s6, s7, s8⟩ := hSw; go_simp; (try with_reducible rfl); done)
  try simp only [List.append_eq, List.cons_append, List.nil_append, List.getElem_toArray, List.getElem_cons_zero, List.getElem_cons_succ, Act.put, List.setIfInBounds_toArray, List.set_cons_zero, List.set_cons_succ]
  refine wpAnyH_take (i := 38) (oi := _) (v := ?_) rfl (by kernel_rfl) (by kernel_rfl) (by kernel_rfl) (fun _ _ _ h => h) (Or.inl ⟨by kernel_rfl, ?_⟩) (by assumption) ?_
  rotate_left 1
  focus (intro wq hSw; (try dsimp only at hSw); obtain ⟨s0, s1, s2, s3, s4, s5, s6, s7, s8⟩ := hSw; go_simp; (try with_reducible rfl); done)
  try simp only [List.append_eq, List.cons_append, List.nil_append, List.getElem_toArray, List.getElem_cons_zero, List.getElem_cons_succ, Act.put, List.setIfInBounds_toArray, List.set_cons_zero, List.set_cons_succ]
  refine wpAnyH_take (i := 39) (oi := _) (v := ?_) rfl (by kernel_rfl) (by kernel_rfl) (by kernel_rfl) (fun _ _ _ h => h) (Or.inl ⟨by kernel_rfl, ?_⟩) (by assumption) ?_
  rotate_left 1
  focus (intro wq hSw; (try dsimp only at hSw); obtain ⟨s0, s1, s2, s3, s4, s5, s6, s7, s8⟩ := hSw; go_simp; (try with_reducible rfl); done)
  try simp only [List.append_eq, List.cons_append, List.nil_append, List.getElem_toArray, List.getElem_cons_zero, List.getElem_cons_succ, Act.put, List.setIfInBounds_toArray, List.set_cons_zero, List.set_cons_succ]
  refine wpAnyH_ready (rs := [40]) (by kernel_rfl) (by simp) ?_
  refine AllReadyH.cons (o := _) rfl (fun K hK => ?_) AllReadyH.nil
  rw [if_pos (by kernel_rfl)]
  go_simp
  obtain ⟨r3, hr3⟩ : ∃ r, zz.heap.size = r := ⟨_, rfl⟩; have q := (Below.refl zz.heap.size zz).alloc (Nat.le_refl _) (.cells #[.int .i64 0, .int .i64 1] 3)
  first | refine hK.out _ _ ?_ (fun hHeld => ?_) | (go_wp2_with fail; refine hK.out _ _ ?_ (fun hHeld => ?_))
  · exact HS.out _ (hHeld.2.2.2.2.2.2.2.2.out.1.keep q) (hHeld.2.2.2.2.2.2.2.2.out.2.keep q)
  clear hK K
  try simp only [List.append_eq, List.cons_append, List.nil_append, List.getElem_toArray, List.getElem_cons_zero, List.getElem_cons_succ, Act.put, List.setIfInBounds_toArray, List.set_cons_zero, List.set_cons_succ]
  refine wpAnyH_ready (rs := [41]) (by kernel_rfl) (by simp) ?_
  refine AllReadyH.cons (o := _) rfl (fun K hK => ?_) AllReadyH.nil
  rw [if_pos (by kernel_rfl)]
  go_simp
  (go_at_call 17; (with_reducible refine (ints_any vo2 _ 2 vc2 2 2 [0, 1] [0, 1] _ hHeld.2.2.2.2.2.2.2.2.out.2 (iz_two (heap_at hr3)) true ⟨fun _ => rfl, fun _ => rfl⟩).mono ?_); rintro e z9 ⟨rfl, q⟩; clear hr3)
  first | refine hK.out _ _ ?_ (fun hHeld => ?_) | (go_wp2_with fail; refine hK.out _ _ ?_ (fun hHeld => ?_))
  · exact HS.out _ (hHeld.2.2.2.2.2.2.2.2.out.1.keep q) (hHeld.2.2.2.2.2.2.2.2.out.2.keep q)
  clear hK K
  try simp only [List.append_eq, List.cons_append, List.nil_append, List.getElem_toArray, List.getElem_cons_zero, List.getElem_cons_succ, Act.put, List.setIfInBounds_toArray, List.set_cons_zero, List.set_cons_succ]
  refine wpAnyH_take (i := 42) (oi := _) (v := ?_) rfl (by kernel_rfl) (by kernel_rfl) (by kernel_rfl) (fun _ _ _ h => h) (Or.inl ⟨by kernel_rfl, ?_⟩) (by assumption) ?_
  rotate_left 1
  focus (intro wq hSw; (try dsimp only at hSw); obtain ⟨s0, s1, s2, s3, s4, s5, s6, s7, s8⟩ := hSw; go_simp; (try with_reducible rfl); done)
  try simp only [List.append_eq, List.cons_append, List.nil_append, List.getElem_toArray, List.getElem_cons_zero, List.getElem_cons_succ, Act.put, List.setIfInBounds_toArray, List.set_cons_zero, List.set_cons_succ]
  refine wpAnyH_take (i := 43) (oi := _) (v := ?_) rfl (by kernel_rfl) (by kernel_rfl) (by kernel_rfl) (fun _ _ _ h => h) (Or.inl ⟨by kernel_rfl, ?_⟩) (by assumption) ?_
  rotate_left 1
  focus (intro wq hSw; (try dsimp only at hSw); obtain ⟨s0, s1, s2, s3, s4, s5, s6, s7, s8⟩ := hSw; go_simp; (try with_reducible rfl); done)
  try simp only [List.append_eq, List.cons_append, List.nil_append, List.getElem_toArray, List.getElem_cons_zero, List.getElem_cons_succ, Act.put, List.setIfInBounds_toArray, List.set_cons_zero, List.set_cons_succ]
  refine wpAnyH_take (i := 44) (oi := _) (v := ?_) rfl (by kernel_rfl) (by kernel_rfl) (by kernel_rfl) (fun _ _ _ h => h) (Or.inl ⟨by kernel_rfl, ?_⟩) (by assumption) ?_
  rotate_left 1
  focus (intro wq hSw; (try dsimp only at hSw); obtain ⟨s0, s1, s2, s3, s4, s5, s6, s7, s8⟩ := hSw; go_simp; (try with_reducible rfl); done)
  try simp only [List.append_eq, List.cons_append, List.nil_append, List.getElem_toArray, List.getElem_cons_zero, List.getElem_cons_succ, Act.put, List.setIfInBounds_toArray, List.set_cons_zero, List.set_cons_succ]
  refine wpAnyH_take (i := 45) (oi := _) (v := ?_) rfl (by kernel_rfl) (by kernel_rfl) (by kernel_rfl) (fun _ _ _ h => h) (Or.inl ⟨by kernel_rfl, ?_⟩) (by assumption) ?_
  rotate_left 1
  focus (intro wq hSw; (try dsimp only at hSw); obtain ⟨s0, s1, s2, s3, s4, s5, s6, s7, s8⟩ := hSw; go_simp; (try with_reducible rfl); done)
  try simp only [List.append_eq, List.cons_append, List.nil_append, List.getElem_toArray, List.getElem_cons_zero, List.getElem_cons_succ, Act.put, List.setIfInBounds_toArray, List.set_cons_zero, List.set_cons_succ]
  refine wpAnyH_take (i := 46) (oi := _) (v := ?_) rfl (by kernel_rfl) (by kernel_rfl) (by kernel_rfl) (fun _ _ _ h => h) (Or.inl ⟨by kernel_rfl, ?_⟩) (by assumption) ?_
  rotate_left 1
  focus (intro wq hSw; (try dsimp only at hSw); obtain ⟨s0, s1, s2, s3, s4, s5, s6, s7, s8⟩ := hSw; go_simp; (try with_reducible rfl); done)
  try simp only [List.append_eq, List.cons_append, List.nil_append, List.getElem_toArray, List.getElem_cons_zero, List.getElem_cons_succ, Act.put, List.setIfInBounds_toArray, List.set_cons_zero, List.set_cons_succ]
  refine wpAnyH_take (i := 47) (oi := _) (v := ?_) rfl (by kernel_rfl) (by kernel_rfl) (by kernel_rfl) (fun _ _ _ h => h) (Or.inl ⟨by kernel_rfl, ?_⟩) (by assumption) ?_
  rotate_left 1
  focus (intro wq hSw; (try dsimp only at hSw); obtain ⟨s0, s1, s2, s3, s4, s5, s6, s7, s8⟩ := hSw; go_simp; (try with_reducible rfl); done)
  try simp only [List.append_eq, List.cons_append, List.nil_append, List.getElem_toArray, List.getElem_cons_zero, List.getElem_cons_succ, Act.put, List.setIfInBounds_toArray, List.set_cons_zero, List.set_cons_succ]
  refine wpAnyH_take (i := 48) (oi := _) (v := ?_) rfl (by kernel_rfl) (by kernel_rfl) (by kernel_rfl) (fun _ _ _ h => h) (Or.inl ⟨by kernel_rfl, ?_⟩) (by assumption) ?_
  rotate_left 1
  focus (intro wq hSw; (try dsimp only at hSw); obtain ⟨s0, s1, s2, s3, s4, s5, s6, s7, s8⟩ := hSw; go_simp; (try with_reducible rfl); done)
  try simp only [List.append_eq, List.cons_append, List.nil_append, List.getElem_toArray, List.getElem_cons_zero, List.getElem_cons_succ, Act.put, List.setIfInBounds_toArray, List.set_cons_zero, List.set_cons_succ]
  refine wpAnyH_take (i := 50) (oi := _) (v := ?_) rfl (by kernel_rfl) (by kernel_rfl) (by kernel_rfl) (fun _ _ _ h => h) (Or.inl ⟨by kernel_rfl, ?_⟩) (by assumption) ?_
  rotate_left 1
  focus (intro wq hSw; (try dsimp only at hSw); obtain ⟨s0, s1, s2, s3, s4, s5, s6, s7, s8⟩ := hSw; go_simp; (try with_reducible rfl); done)
  try simp only [List.append_eq, List.cons_append, List.nil_append, List.getElem_toArray, List.getElem_cons_zero, List.getElem_cons_succ, Act.put, List.setIfInBounds_toArray, List.set_cons_zero, List.set_cons_succ]
  refine wpAnyH_ready (rs := [49]) (by kernel_rfl) (by simp) ?_
  refine AllReadyH.cons (o := _) rfl (fun K hK => ?_) AllReadyH.nil
  rw [if_pos (by kernel_rfl)]
  go_simp
  (go_at_call 23; (with_reducible refine (CIS.out 0 false _).mono ?_); rintro e z10 ⟨x, y, rfl, HXY, q⟩; have q := q.out)
  first | refine hK.out _ _ ?_ (fun hHeld => ?_) | (go_wp2_with fail; refine hK.out _ _ ?_ (fun hHeld => ?_))
  · exact HS.out _ (hHeld.2.2.2.2.2.2.2.2.out.1.keep q) (hHeld.2.2.2.2.2.2.2.2.out.2.keep q)
  clear hK K
  try simp only [List.append_eq, List.cons_append, List.nil_append, List.getElem_toArray, List.getElem_cons_zero, List.getElem_cons_succ, Act.put, List.setIfInBounds_toArray, List.set_cons_zero, List.set_cons_succ]
  refine wpAnyH_ready (rs := [51]) (by kernel_rfl) (by simp) ?_
  refine AllReadyH.cons (o := _) rfl (fun K hK => ?_) AllReadyH.nil
  rw [if_pos (by kernel_rfl)]
  go_simp
  (go_at_call 10; (with_reducible refine (CF7.out _ hHeld.2.2.2.2.2.2.2.2.out.1).mono ?_); rintro e z11 ⟨rfl, q⟩; have q := q.out; have HXY := Lib.hid (⟨cell_keep HXY.out.1 q, cell_keep HXY.out.2 q⟩ : _ ∧ _))
  first | refine hK.out _ _ ?_ (fun hHeld => ?_) | (go_wp2_with fail; refine hK.out _ _ ?_ (fun hHeld => ?_))
  · exact HS.out _ (hHeld.2.2.2.2.2.2.2.2.out.1.keep q) (hHeld.2.2.2.2.2.2.2.2.out.2.keep q)
  clear hK K
  try simp only [List.append_eq, List.cons_append, List.nil_append, List.getElem_toArray, List.getElem_cons_zero, List.getElem_cons_succ, Act.put, List.setIfInBounds_toArray, List.set_cons_zero, List.set_cons_succ]
  refine wpAnyH_take (i := 52) (oi := _) (v := ?_) rfl (by kernel_rfl) (by kernel_rfl) (by kernel_rfl) (fun _ _ _ h => h) (Or.inl ⟨by kernel_rfl, ?_⟩) (by assumption) ?_
  rotate_left 1
  focus (intro wq hSw; (try dsimp only at hSw); obtain ⟨s0, s1, s2, s3, s4, s5, s6, s7, s8⟩ := hSw; go_simp; (try with_reducible rfl); done)
  try simp only [List.append_eq, List.cons_append, List.nil_append, List.getElem_toArray, List.getElem_cons_zero, List.getElem_cons_succ, Act.put, List.setIfInBounds_toArray, List.set_cons_zero, List.set_cons_succ]
  refine wpAnyH_take (i := 53) (oi := _) (v := ?_) rfl (by kernel_rfl) (by kernel_rfl) (by kernel_rfl) (fun _ _ _ h => h) (Or.inl ⟨by kernel_rfl, ?_⟩) (by assumption) ?_
  rotate_left 1
  focus (intro wq hSw; (try dsimp only at hSw); obtain ⟨s0, s1, s2, s3, s4, s5, s6, s7, s8⟩ := hSw; go_simp; (try with_reducible rfl); done)
  try simp only [List.append_eq, List.cons_append, List.nil_append, List.getElem_toArray, List.getElem_cons_zero, List.getElem_cons_succ, Act.put, List.setIfInBounds_toArray, List.set_cons_zero, List.set_cons_succ]
  refine wpAnyH_ready (rs := [54]) (by kernel_rfl) (by simp) ?_
  refine AllReadyH.cons (o := _) rfl (fun K hK => ?_) AllReadyH.nil
  rw [if_pos (by kernel_rfl)]
  go_simp
  (go_at_call 54; (with_reducible refine (CIC.out 0 false x y _ HXY.out.1 HXY.out.2).mono ?_); rintro e zz ⟨rfl, hzz⟩; subst hzz; have q := Below.refl zz.heap.size zz; clear HXY)
  first | refine hK.out _ _ ?_ (fun hHeld => ?_) | (go_wp2_with fail; refine hK.out _ _ ?_ (fun hHeld => ?_))
  · exact HS.out _ (hHeld.2.2.2.2.2.2.2.2.out.1.keep q) (hHeld.2.2.2.2.2.2.2.2.out.2.keep q)
  clear hK K
  try simp only [List.append_eq, List.cons_append, List.nil_append, List.getElem_toArray, List.getElem_cons_zero, List.getElem_cons_succ, Act.put, List.setIfInBounds_toArray, List.set_cons_zero, List.set_cons_succ]
  refine wpAnyH_take (i := 55) (oi := _) (v := ?_) rfl (by kernel_rfl) (by kernel_rfl) (by kernel_rfl) (fun _ _ _ h => h) (Or.inl ⟨by kernel_rfl, ?_⟩) (by assumption) ?_
  rotate_left 1
  focus (intro wq hSw; (try dsimp only at hSw); obtain ⟨s0, s1, s2, s3, s4, s5, s6, s7, s8⟩ := hSw; go_simp; (try with_reducible rfl); done)
  try simp only [List.append_eq, List.cons_append, List.nil_append, List.getElem_toArray, List.getElem_cons_zero, List.getElem_cons_succ, Act.put, List.setIfInBounds_toArray, List.set_cons_zero, List.set_cons_succ]
  refine wpAnyH_take (i := 56) (oi := _) (v := ?_) rfl (by kernel_rfl) (by kernel_rfl) (by kernel_rfl) (fun _ _ _ h => h) (Or.inl ⟨by kernel_rfl, ?_⟩) (by assumption) ?_
  rotate_left 1
  focus (intro wq hSw; (try dsimp only at hSw); obtain ⟨s0, s1, s2, s3, s4, s5, s6, s7, s8⟩ := hSw; go_simp; (try with_reducible rfl); done)
  try simp only [List.append_eq, List.cons_append, List.nil_append, List.getElem_toArray, List.getElem_cons_zero, List.getElem_cons_succ, Act.put, List.setIfInBounds_toArray, List.set_cons_zero, List.set_cons_succ]
  refine wpAnyH_take (i := 58) (oi := _) (v := ?_) rfl (by kernel_rfl) (by kernel_rfl) (by kernel_rfl) (fun _ _ _ h => h) (Or.inl ⟨by kernel_rfl, ?_⟩) (by assumption) ?_
  rotate_left 1
  focus (intro wq hSw; (try dsimp only at hSw); obtain ⟨s0, s1, s2, s3, s4, s5, s6, s7, s8⟩ := hSw; go_simp; (try with_reducible rfl); done)
  try simp only [List.append_eq, List.cons_append, List.nil_append, List.getElem_toArray, List.getElem_cons_zero, List.getElem_cons_succ, Act.put, List.setIfInBounds_toArray, List.set_cons_zero, List.set_cons_succ]
  refine wpAnyH_ready (rs := [57]) (by kernel_rfl) (by simp) ?_
  refine AllReadyH.cons (o := _) rfl (fun K hK => ?_) AllReadyH.nil
  rw [if_pos (by kernel_rfl)]
  go_simp
  (go_at_call 23; (with_reducible refine (CIS.out 3 true _).mono ?_); rintro e z12 ⟨x, y, rfl, HXY, q⟩; have q := q.out)
  first | refine hK.out _ _ ?_ (fun hHeld => ?_) | (go_wp2_with fail; refine hK.out _ _ ?_ (fun hHeld => ?_))
  · exact HS.out _ (hHeld.2.2.2.2.2.2.2.2.out.1.keep q) (hHeld.2.2.2.2.2.2.2.2.out.2.keep q)
  clear hK K
  try simp only [List.append_eq, List.cons_append, List.nil_append, List.getElem_toArray, List.getElem_cons_zero, List.getElem_cons_succ, Act.put, List.setIfInBounds_toArray, List.set_cons_zero, List.set_cons_succ]
  refine wpAnyH_ready (rs := [59]) (by kernel_rfl) (by simp) ?_
  refine AllReadyH.cons (o := _) rfl (fun K hK => ?_) AllReadyH.nil
  rw [if_pos (by kernel_rfl)]
  go_simp
  (go_at_call 12; (with_reducible refine (CT1.out _ hHeld.2.2.2.2.2.2.2.2.out.1).mono ?_); rintro e z13 ⟨rfl, q⟩; have q := q.out; have HXY := Lib.hid (⟨cell_keep HXY.out.1 q, cell_keep HXY.out.2 q⟩ : _ ∧ _))
  first | refine hK.out _ _ ?_ (fun hHeld => ?_) | (go_wp2_with fail; refine hK.out _ _ ?_ (fun hHeld => ?_))
  · exact HS.out _ (hHeld.2.2.2.2.2.2.2.2.out.1.keep q) (hHeld.2.2.2.2.2.2.2.2.out.2.keep q)
  clear hK K
  try simp only [List.append_eq, List.cons_append, List.nil_append, List.getElem_toArray, List.getElem_cons_zero, List.getElem_cons_succ, Act.put, List.setIfInBounds_toArray, List.set_cons_zero, List.set_cons_succ]
  refine wpAnyH_take (i := 60) (oi := _) (v := ?_) rfl (by kernel_rfl) (by kernel_rfl) (by kernel_rfl) (fun _ _ _ h => h) (Or.inl ⟨by kernel_rfl, ?_⟩) (by assumption) ?_
  rotate_left 1
  focus (intro wq hSw; (try dsimp only at hSw); obtain ⟨s0, s1, s2, s3, s4, s5, s6, s7, s8⟩ := hSw; go_simp; (try with_reducible rfl); done)
  try simp only [List.append_eq, List.cons_append, List.nil_append, List.getElem_toArray, List.getElem_cons_zero, List.getElem_cons_succ, Act.put, List.setIfInBounds_toArray, List.set_cons_zero, List.set_cons_succ]
  refine wpAnyH_take (i := 61) (oi := _) (v := ?_) rfl (by kernel_rfl) (by kernel_rfl) (by kernel_rfl) (fun _ _ _ h => h) (Or.inl ⟨by kernel_rfl, ?_⟩) (by assumption) ?_
  rotate_left 1
  focus (intro wq hSw; (try dsimp only at hSw); obtain ⟨s0, s1, s2, s3, s4, s5, s6, s7, s8⟩ := hSw; go_simp; (try with_reducible rfl); done)
  try simp only [List.append_eq, List.cons_append, List.nil_append, List.getElem_toArray, List.getElem_cons_zero, List.getElem_cons_succ, Act.put, List.setIfInBounds_toArray, List.set_cons_zero, List.set_cons_succ]
  refine wpAnyH_ready (rs := [62]) (by kernel_rfl) (by simp) ?_
  refine AllReadyH.cons (o := _) rfl (fun K hK => ?_) AllReadyH.nil
  rw [if_pos (by kernel_rfl)]
  go_simp
  (go_at_call 54; (with_reducible refine (CIC.out 3 true x y _ HXY.out.1 HXY.out.2).mono ?_); rintro e zz ⟨rfl, hzz⟩; subst hzz; have q := Below.refl zz.heap.size zz; clear HXY)
  first | refine hK.out _ _ ?_ (fun hHeld => ?_) | (go_wp2_with fail; refine hK.out _ _ ?_ (fun hHeld => ?_))
  · exact HS.out _ (hHeld.2.2.2.2.2.2.2.2.out.1.keep q) (hHeld.2.2.2.2.2.2.2.2.out.2.keep q)
  clear hK K
  try simp only [List.append_eq, List.cons_append, List.nil_append, List.getElem_toArray, List.getElem_cons_zero, List.getElem_cons_succ, Act.put, List.setIfInBounds_toArray, List.set_cons_zero, List.set_cons_succ]
  refine wpAnyH_take (i := 63) (oi := _) (v := ?_) rfl (by kernel_rfl) (by kernel_rfl) (by kernel_rfl) (fun _ _ _ h => h) (Or.inl ⟨by kernel_rfl, ?_⟩) (by assumption) ?_
  rotate_left 1
  focus (intro wq hSw; (try dsimp only at hSw); obtain ⟨s0, s1, s2, s3, s4, s5, s6, s7, s8⟩ := hSw; go_simp; (try with_reducible rfl); done)
  try simp only [List.append_eq, List.cons_append, List.nil_append, List.getElem_toArray, List.getElem_cons_zero, List.getElem_cons_succ, Act.put, List.setIfInBounds_toArray, List.set_cons_zero, List.set_cons_succ]
  refine wpAnyH_take (i := 64) (oi := _) (v := ?_) rfl (by kernel_rfl) (by kernel_rfl) (by kernel_rfl) (fun _ _ _ h => h) (Or.inl ⟨by kernel_rfl, ?_⟩) (by assumption) ?_
  rotate_left 1
  focus (intro wq hSw; (try dsimp only at hSw); obtain ⟨s0, s1, s2, s3, s4, s5, s6, s7, s8⟩ := hSw; go_simp; (try with_reducible rfl); done)
  try simp only [List.append_eq, List.cons_append, List.nil_append, List.getElem_toArray, List.getElem_cons_zero, List.getElem_cons_succ, Act.put, List.setIfInBounds_toArray, List.set_cons_zero, List.set_cons_succ]
  refine wpAnyH_done (by kernel_rfl) ?_ _
  go_wp2
  go_returns
  exact ⟨rfl, hHeld.2.2.2.2.2.2.2.2.out.1.bw⟩
end Go.Proofs.YtjhbgedobkpdhaaGreat
