/- T1, T0, T2, T3 in one. -/
import Derived.Test.YtaobhhgalkkmaaaEe
namespace Go.Proofs.Ytaobhhgalkkmaaa
set_option linter.unusedVariables false
set_option linter.unusedSimpArgs false
open Go.ChangeShapes Go.WideShapes Go.ChangeAt Go.RowKit
theorem at_ex (F : Fv) (t : Int) : ∃ i ok, AtIs F t i ok := by
  classical
  by_cases h : ∃ k, Ex F k ∧ mem (gr F k) t
  · obtain ⟨k, e, m⟩ := h
    exact ⟨k, true, fun _ => ⟨e, m⟩, fun z => by cases z⟩
  · exact ⟨0, false, (fun z => by cases z), fun _ => ⟨rfl, fun k e m => h ⟨k, e, m⟩⟩⟩
theorem at_same {F : Fv} (rt : F.Rt) (ok : F.Ok) (hl : F.cs.length = F.cn) {t i j : Int} {p q : Bool} (h : AtIs F t i p) (k : AtIs F t j q) : i = j ∧ p = q := by
  cases p with
  | true =>
    obtain ⟨e, m⟩ := h.1 rfl
    obtain ⟨a, b⟩ := at_yes2 rt ok hl e m k
    exact ⟨a.symm, b.symm⟩
  | false =>
    obtain ⟨rfl, n⟩ := h.2 rfl
    cases q with
    | true => obtain ⟨e, m⟩ := k.1 rfl; exact absurd m (n j e)
    | false => exact ⟨(k.2 rfl).1.symm, rfl⟩
theorem at_in {F : Fv} {t i : Int} {p : Bool} (h : AtIs F t i p) : -1099511627776 ≤ i ∧ i ≤ 1099511627776 := by
  cases p with
  | true => exact (h.1 rfl).1.1
  | false => rw [(h.2 rfl).1]; omega
theorem at_order {F : Fv} (rt : F.Rt) (ok : F.Ok) (hl : F.cs.length = F.cn) {a b i j : Int} (h : AtIs F a i true) (k : AtIs F b j true) (ab : a ≤ b) : i ≤ j := by
  obtain ⟨e, m⟩ := h.1 rfl
  obtain ⟨f, n⟩ := k.1 rfl
  rcases Int.lt_or_le j i with z | z
  · have x := gr_mem_hull ok e m
    have y := gr_mem_hull ok f n
    have := ex_order rt ok hl f.1 e.1 z f.2.2 e.2.2
    omega
  · exact z
set_option maxRecDepth 8000 in
set_option maxHeartbeats 2000000 in
theorem distance_any (F : Fv) (a b0 ia ib : Int) (oa ob : Bool) (w : World) (hF : F.At w) (rt : F.Rt) (ok : F.Ok) (hc : F.cn ≤ 10000) (a1 : -9223372036854775808 ≤ a) (a2 : a ≤ 9223372036854775807) (b1 : -9223372036854775808 ≤ b0) (b2 : b0 ≤ 9223372036854775807) (ha : AtIs F a ia oa) (hb0 : AtIs F b0 ib ob) (d : Int) (r : Bool) (hr : r = (oa && ob)) (hd : d = if r then ib - ia else 0) :
    Calls Try.prog 9 #[F.v, .int .i64 a, .int .i64 b0] w fun e w' => e = .returned (.tuple #[.int .i64 d, .bool r]) ∧ Hid (Below w.heap.size w w') := by
  have HRT := Lib.hid rt
  have HOK := Lib.hid ok
  have HA := Lib.hid ha
  have HB := Lib.hid hb0
  have i1 := at_in ha
  have i2 := at_in hb0
  subst hr hd
  clear rt ok ha hb0
  obtain ⟨P, N, co, cn, cc, oo, on, oc, cs, os⟩ := F
  have LC : Hid (cs.length = cn) := Lib.hid hF.core.len
  have LO : Hid (os.length = on) := Lib.hid hF.odd.len
  have hmc : cn ≤ 9223372036854775807 := Nat.le_trans hF.core.le hF.core.top
  have hmo : on ≤ 9223372036854775807 := Nat.le_trans hF.odd.le hF.odd.top
  have hc10 : cn ≤ 10000 := hc
  have HLN : Hid ((Fv.cs ⟨P, N, co, cn, cc, oo, on, oc, cs, os⟩).length = Fv.cn ⟨P, N, co, cn, cc, oo, on, oc, cs, os⟩) := Lib.hid LC.out
  have CA : Hid (∀ W, Fv.At ⟨P, N, co, cn, cc, oo, on, oc, cs, os⟩ W → Calls Try.prog 23 #[.agg #[.int .i64 P, .int .i64 N, .slice co cn cc, .slice oo on oc], .int .i64 a] W fun e w' => e = .returned (.tuple #[.int .i64 ia, .bool oa]) ∧ Hid (Below W.heap.size W w')) := Lib.hid (fun W h => (at_any ⟨P, N, co, cn, cc, oo, on, oc, cs, os⟩ a W h HRT.out HOK.out hc10 a1 a2).mono (by
    rintro e w' ⟨⟨i', k', rfl, hj⟩, q⟩
    obtain ⟨rfl, rfl⟩ := at_same HRT.out HOK.out HLN.out HA.out hj
    exact ⟨rfl, q⟩))
  have CB : Hid (∀ W, Fv.At ⟨P, N, co, cn, cc, oo, on, oc, cs, os⟩ W → Calls Try.prog 23 #[.agg #[.int .i64 P, .int .i64 N, .slice co cn cc, .slice oo on oc], .int .i64 b0] W fun e w' => e = .returned (.tuple #[.int .i64 ib, .bool ob]) ∧ Hid (Below W.heap.size W w')) := Lib.hid (fun W h => (at_any ⟨P, N, co, cn, cc, oo, on, oc, cs, os⟩ b0 W h HRT.out HOK.out hc10 b1 b2).mono (by
    rintro e w' ⟨⟨i', k', rfl, hj⟩, q⟩
    obtain ⟨rfl, rfl⟩ := at_same HRT.out HOK.out HLN.out HB.out hj
    exact ⟨rfl, q⟩))
  obtain ⟨b, hb⟩ : ∃ b, w.heap.size = b := ⟨_, rfl⟩
  obtain ⟨wb, hwb⟩ : ∃ wb, w.alloc (.cells #[.int .i64 P, .int .i64 N, .slice co cn cc, .slice oo on oc] 25) = wb := ⟨_, rfl⟩
  have HBB : Hid (Fbox ⟨P, N, co, cn, cc, oo, on, oc, cs, os⟩ w wb b) := Lib.hid (by rw [← hwb, ← hb]; exact fbox_new hF)
  clear hF
  show Calls Try.prog 9 #[.agg #[.int .i64 P, .int .i64 N, .slice co cn cc, .slice oo on oc], .int .i64 a, .int .i64 b0] w _
  go_enter Try.func9, Try.ntmps9
  go_upto_region 1 with fail
  clear hwb hb
  have e0 : wb.cell? ⟨b, 0, none⟩ = some (.int .i64 P) := HBB.out.c0
  have e1 : wb.cell? ⟨b, 1, none⟩ = some (.int .i64 N) := HBB.out.c1
  have e2 : wb.cell? ⟨b, 2, none⟩ = some (.slice co cn cc) := HBB.out.c2
  have e3 : wb.cell? ⟨b, 3, none⟩ = some (.slice oo on oc) := HBB.out.c3
  go_wp2_with fail
  (with_reducible refine (CA.out _ HBB.out.at_).mono ?_)
  rintro e w1 ⟨rfl, q⟩
  have HBB := Lib.hid (HBB.out.keep q.out)
  clear q e0 e1 e2 e3
  cases oa
  · go_wp2
    go_returns
    exact ⟨rfl, Lib.hid HBB.out.bw⟩
  · have e0 : w1.cell? ⟨b, 0, none⟩ = some (.int .i64 P) := HBB.out.c0
    have e1 : w1.cell? ⟨b, 1, none⟩ = some (.int .i64 N) := HBB.out.c1
    have e2 : w1.cell? ⟨b, 2, none⟩ = some (.slice co cn cc) := HBB.out.c2
    have e3 : w1.cell? ⟨b, 3, none⟩ = some (.slice oo on oc) := HBB.out.c3
    go_wp2_with fail
    (with_reducible refine (CB.out _ HBB.out.at_).mono ?_)
    rintro e w2 ⟨rfl, q⟩
    have HBB := Lib.hid (HBB.out.keep q.out)
    clear q e0 e1 e2 e3
    cases ob
    · go_wp2
      go_returns
      exact ⟨rfl, Lib.hid HBB.out.bw⟩
    · go_wp2
      go_returns
      exact ⟨rfl, Lib.hid HBB.out.bw⟩
attribute [local go_sem] Oper.semAt_some
def ints (xs : List Int) : List Value := xs.map (fun i => .int .i64 i)
/-- A list of numbers in memory. -/
structure IzAt (w : World) (ao : Option Addr) (n c : Nat) (xs : List Int) : Prop where
  len : xs.length = n
  le : n ≤ c
  top : c ≤ 9223372036854775807
  here : 0 < n → ∃ b p, ao = some ⟨b, p, none⟩ ∧ ∀ i (h : i < xs.length), w.cell? ⟨b, p + i, none⟩ = some (.int .i64 xs[i])
theorem IzAt.keep {w w' : World} {ao : Option Addr} {n c : Nat} {xs : List Int} (h : IzAt w ao n c xs) (k : Below w.heap.size w w') : IzAt w' ao n c xs := ⟨h.len, h.le, h.top, fun hn => by obtain ⟨b, p, e, hc⟩ := h.here hn; exact ⟨b, p, e, fun i hi => cell_keep (hc i hi) k⟩⟩
theorem own_iz {w : World} {B : Nat} {v : Value} {xs : List Int} (h : w.ownsRow B 3 1 v xs.length (ints xs)) : ∃ ao c, v = .slice ao xs.length c ∧ IzAt w ao xs.length c xs := by
  rcases h.2 with ⟨q1, q2⟩ | ⟨g, cap, cur, hv, h2, h3, h4, h5, h6, h7⟩
  · have hx : xs = [] := by cases xs with | nil => rfl | cons a r => simp [ints] at q2
    subst hx
    exact ⟨none, 0, q1, rfl, Nat.le_refl _, by decide, fun h => absurd h (Nat.lt_irrefl _)⟩
  · refine ⟨_, cap, hv, rfl, h4, by unfold maxLen at h5; omega, fun _ => ⟨g, 0, rfl, fun i hi => ?_⟩⟩
    rw [Nat.zero_add, cell_block h3]
    have e := congrArg (fun q => q[i]?) h7
    simp only [List.getElem?_take] at e
    rw [if_pos (by omega)] at e
    rw [← Array.getElem?_toList, e]
    simp [ints, hi]
theorem iz_two {w : World} {g : Nat} {x y : Int} (h : w.heap[g]? = some (.cells #[.int .i64 x, .int .i64 y] 3 (0, 0))) : IzAt w (some ⟨g, 0, none⟩) 2 2 [x, y] := ⟨rfl, Nat.le_refl _, (show 2 ≤ 9223372036854775807 by decide), fun _ => ⟨g, 0, rfl, fun i hi => by
  match i, hi with
  | 0, _ => exact cell_block h 0
  | 1, _ => exact cell_block h 1⟩⟩
theorem take_iz {a b : List Int} (h : a.length = b.length) {k : Nat} (hk : k < a.length) (e : a.take k = b.take k) : a.take (k + 1) = b.take (k + 1) ↔ a[k] = b[k]'(by omega) := by
  have hb : k < b.length := by omega
  have e2 := List.take_succ_eq_append_getElem hb
  rw [List.take_succ_eq_append_getElem hk, e2, e]
  exact ⟨fun h => (List.cons.inj (List.append_cancel_left h)).1, fun h => by rw [h]⟩
set_option maxHeartbeats 2000000 in
theorem ints_any (ao bo : Option Addr) (n c m d : Nat) (a b : List Int) (w : World) (ha : IzAt w ao n c a) (hb : IzAt w bo m d b) (r : Bool) (hr : r = true ↔ a = b) : Calls Try.prog 14 #[.slice ao n c, .slice bo m d] w fun e w' => e = .returned (.bool r) ∧ Below w.heap.size w w' := by
  have HA := Lib.hid ha
  have HB := Lib.hid hb
  have HR := Lib.hid hr
  have hx1 : n ≤ 9223372036854775807 := Nat.le_trans ha.le ha.top
  have hx2 : m ≤ 9223372036854775807 := Nat.le_trans hb.le hb.top
  have LA := Lib.hid ha.len
  have LB := Lib.hid hb.len
  clear ha hb hr
  by_cases hnm : n = m
  · subst hnm
    have t1 : ((n : Int) != (n : Int)) = false := by simp
    go_enter Try.func14, Try.ntmps14
    go_wp2
    go_loopw [13] (fun ii wr => ∃ i : Nat, i ≤ n ∧ ii = .int .i64 i ∧ Hid (a.take i = b.take i) ∧ Hid (Below w.heap.size w wr)) (fun ii _ => n - (intOf ii).toNat)
    case atStart => exact ⟨0, Nat.zero_le _, rfl, Lib.hid rfl, Lib.hid (Below.refl _ _)⟩
    case round =>
      obtain ⟨i, hi, rfl, HI, HW⟩ := hrel
      by_cases ilt : i < n
      · obtain ⟨x, p, rfl, hc⟩ := HA.out.here (by omega)
        obtain ⟨y, q, rfl, hd⟩ := HB.out.here (by omega)
        have hia : i < a.length := by rw [LA.out]; exact ilt
        have hib : i < b.length := by rw [LB.out]; exact ilt
        have c1 := cell_keep (hc i hia) HW.out
        have d1 := cell_keep (hd i hib) HW.out
        have HT := Lib.hid (take_iz (by rw [LA.out, LB.out]) hia HI.out)
        have HNE : Hid (a[i] ≠ b[i] → ¬ a = b) := Lib.hid (fun z e => z (by subst e; rfl))
        have i0 : (0 : Int) ≤ (i : Int) := by omega
        have i1 : (i : Int) < (n : Int) := by omega
        obtain ⟨s, hs⟩ : ∃ s, a[i] = s := ⟨_, rfl⟩
        obtain ⟨u, hu⟩ : ∃ s, b[i] = s := ⟨_, rfl⟩
        rw [hs] at c1 HT HNE
        rw [hu] at d1 HT HNE
        clear hc hd hs hu
        go_upto_region 6 with fail
        by_cases su : s = u
        · have t24 : (s != u) = false := by simp; exact su
          have HI2 : Hid (a.take (i + 1) = b.take (i + 1)) := Lib.hid (HT.out.2 su)
          clear su HI HT HNE
          go_quiet (fail)
          go_wp2
          go_roundw
          case rel => exact ⟨i + 1, by omega, by go_num, HI2, Lib.hid (below_drewN HW.out _)⟩
          case measure => simp [intOf]; omega
        · have t24 : (s != u) = true := by simp; exact su
          have HF : Hid (false = r) := Lib.hid (by cases r; rfl; exact absurd (HR.out.1 rfl) (HNE.out su))
          clear su HI HT HNE
          go_quiet (fail)
          go_wp2
          go_returns
          exact ⟨ret_bool HF.out, below_drewN HW.out _⟩
      · obtain rfl : n = i := by omega
        have HF : Hid (true = r) := Lib.hid (by
          have h := HI.out
          rw [List.take_of_length_le (by rw [LA.out]; omega), List.take_of_length_le (by rw [LB.out]; omega)] at h
          exact (HR.out.2 h).symm)
        go_wp2
        go_returns
        exact ⟨ret_bool HF.out, HW.out⟩
  · have t1 : ((n : Int) != (m : Int)) = true := by simp; omega
    have HF : Hid (false = r) := Lib.hid (by
      cases r
      · rfl
      · have h := HR.out.1 rfl
        have h1 := LA.out; have h2 := LB.out
        rw [← h] at h2
        omega)
    clear hnm
    go_enter Try.func14, Try.ntmps14
    go_wp2
    go_returns
    exact ⟨ret_bool HF.out, Below.refl _ _⟩
/-- A constraint. -/
structure Cn where
  x : Int
  y : Int
  f : Int
  lo : Int
  hi : Int
  hl : Bool
  hh : Bool
abbrev Cn.box (c : Cn) : Array Value := #[.int .i64 c.x, .int .i64 c.y, .int .i64 c.f, .int .i64 c.lo, .int .i64 c.hi, .bool c.hl, .bool c.hh]
abbrev Cn.v (c : Cn) : Value := .agg c.box
def InRg (lo hi : Int) (hl hh : Bool) (k : Int) : Prop := (hl = true → lo ≤ k) ∧ (hh = true → k ≤ hi)
def EndRg (lo hi : Int) (hl hh : Bool) : Prop := (hl = true ∨ lo = 0) ∧ (hh = true ∨ hi = 0)
structure Cb (c : Cn) (w : World) (b : Nat) : Prop where
  c0 : w.cell? ⟨b, 0, none⟩ = some (.int .i64 c.x)
  c1 : w.cell? ⟨b, 1, none⟩ = some (.int .i64 c.y)
  c2 : w.cell? ⟨b, 2, none⟩ = some (.int .i64 c.f)
  c3 : w.cell? ⟨b, 3, none⟩ = some (.int .i64 c.lo)
  c4 : w.cell? ⟨b, 4, none⟩ = some (.int .i64 c.hi)
  c5 : w.cell? ⟨b, 5, none⟩ = some (.bool c.hl)
  c6 : w.cell? ⟨b, 6, none⟩ = some (.bool c.hh)
theorem Cb.keep {c : Cn} {w w' : World} {b : Nat} (h : Cb c w b) (k : Below w.heap.size w w') : Cb c w' b := ⟨cell_keep h.c0 k, cell_keep h.c1 k, cell_keep h.c2 k, cell_keep h.c3 k, cell_keep h.c4 k, cell_keep h.c5 k, cell_keep h.c6 k⟩
theorem cb_of {c : Cn} {w : World} {b : Nat} {T : TypeId} (h : w.heap[b]? = some (.cells c.box T (0, 0))) : Cb c w b := ⟨cell_block h 0, cell_block h 1, cell_block h 2, cell_block h 3, cell_block h 4, cell_block h 5, cell_block h 6⟩
set_option maxHeartbeats 1000000 in
theorem rgHas_any (lo hi k : Int) (hl hh : Bool) (w : World) (r : Bool) (hr : r = true ↔ InRg lo hi hl hh k) :
    Calls Try.prog 40 #[.agg #[.int .i64 lo, .int .i64 hi, .bool hl, .bool hh], .int .i64 k] w fun e w' => e = .returned (.bool r) ∧ Hid (Below w.heap.size w w') := by
  have HB : Hid (Below w.heap.size w (w.alloc (.cells #[.int .i64 lo, .int .i64 hi, .bool hl, .bool hh] 34))) := Lib.hid ((Below.refl _ _).alloc (Nat.le_refl _) _)
  have HR := Lib.hid hr
  clear hr
  cases hl <;> cases hh
  · have HF : Hid (true = r) := Lib.hid (by
      exact (HR.out.2 ⟨fun z => (by cases z), fun z => (by cases z)⟩).symm)
    clear HR
    go_enter Try.func40, Try.ntmps40
    go_wp2
    go_returns
    exact ⟨ret_bool HF.out, HB⟩
  · by_cases h2 : k ≤ hi
    · have t2 : decide (k ≤ hi) = true := by simp; omega
      have HF : Hid (true = r) := Lib.hid (by
        exact (HR.out.2 ⟨fun z => (by cases z), fun _ => (by omega)⟩).symm)
      clear HR
      go_enter Try.func40, Try.ntmps40
      go_wp2
      go_returns
      exact ⟨ret_bool HF.out, HB⟩
    · have t2 : decide (k ≤ hi) = false := by simp; omega
      have HF : Hid (false = r) := Lib.hid (by
        cases r with | false => rfl | true => exact absurd ((HR.out.1 rfl).2 rfl) (by omega))
      clear HR
      go_enter Try.func40, Try.ntmps40
      go_wp2
      go_returns
      exact ⟨ret_bool HF.out, HB⟩
  · by_cases h1 : lo ≤ k
    · have t1 : decide (lo ≤ k) = true := by simp; omega
      have HF : Hid (true = r) := Lib.hid (by
        exact (HR.out.2 ⟨fun _ => (by omega), fun z => (by cases z)⟩).symm)
      clear HR
      go_enter Try.func40, Try.ntmps40
      go_wp2
      go_returns
      exact ⟨ret_bool HF.out, HB⟩
    · have t1 : decide (lo ≤ k) = false := by simp; omega
      have HF : Hid (false = r) := Lib.hid (by
        cases r with | false => rfl | true => exact absurd ((HR.out.1 rfl).1 rfl) (by omega))
      clear HR
      go_enter Try.func40, Try.ntmps40
      go_wp2
      go_returns
      exact ⟨ret_bool HF.out, HB⟩
  · by_cases h1 : lo ≤ k
    · have t1 : decide (lo ≤ k) = true := by simp; omega
      by_cases h2 : k ≤ hi
      · have t2 : decide (k ≤ hi) = true := by simp; omega
        have HF : Hid (true = r) := Lib.hid (by
          exact (HR.out.2 ⟨fun _ => (by omega), fun _ => (by omega)⟩).symm)
        clear HR
        go_enter Try.func40, Try.ntmps40
        go_wp2
        go_returns
        exact ⟨ret_bool HF.out, HB⟩
      · have t2 : decide (k ≤ hi) = false := by simp; omega
        have HF : Hid (false = r) := Lib.hid (by
          cases r with | false => rfl | true => exact absurd ((HR.out.1 rfl).2 rfl) (by omega))
        clear HR
        go_enter Try.func40, Try.ntmps40
        go_wp2
        go_returns
        exact ⟨ret_bool HF.out, HB⟩
    · have t1 : decide (lo ≤ k) = false := by simp; omega
      have HF : Hid (false = r) := Lib.hid (by
        cases r with | false => rfl | true => exact absurd ((HR.out.1 rfl).1 rfl) (by omega))
      clear HR
      go_enter Try.func40, Try.ntmps40
      go_wp2
      go_returns
      exact ⟨ret_bool HF.out, HB⟩
set_option maxHeartbeats 1000000 in
theorem rgEnd_any (lo hi : Int) (hl hh : Bool) (w : World) (r : Bool) (hr : r = true ↔ EndRg lo hi hl hh) :
    Calls Try.prog 36 #[.agg #[.int .i64 lo, .int .i64 hi, .bool hl, .bool hh]] w fun e w' => e = .returned (.bool r) ∧ Hid (Below w.heap.size w w') := by
  have HB : Hid (Below w.heap.size w (w.alloc (.cells #[.int .i64 lo, .int .i64 hi, .bool hl, .bool hh] 34))) := Lib.hid ((Below.refl _ _).alloc (Nat.le_refl _) _)
  have HR := Lib.hid hr
  clear hr
  cases hl <;> cases hh
  · by_cases h1 : lo = 0
    · have t1 : (lo == 0) = true := by simp; exact h1
      replace h1 := Lib.hid h1
      by_cases h2 : hi = 0
      · have t2 : (hi == 0) = true := by simp; exact h2
        replace h2 := Lib.hid h2
        have HF : Hid (true = r) := Lib.hid (by
          exact (HR.out.2 ⟨.inr h1.out, .inr h2.out⟩).symm)
        clear HR
        go_enter Try.func36, Try.ntmps36
        go_wp2
        go_returns
        exact ⟨ret_bool HF.out, HB⟩
      · have t2 : (hi == 0) = false := by simp; exact h2
        have HF : Hid (false = r) := Lib.hid (by
          cases r with | false => rfl | true => exact absurd ((HR.out.1 rfl).2.resolve_left (by decide)) h2)
        clear HR
        go_enter Try.func36, Try.ntmps36
        go_wp2
        go_returns
        exact ⟨ret_bool HF.out, HB⟩
    · have t1 : (lo == 0) = false := by simp; exact h1
      have HF : Hid (false = r) := Lib.hid (by
        cases r with | false => rfl | true => exact absurd ((HR.out.1 rfl).1.resolve_left (by decide)) h1)
      clear HR
      go_enter Try.func36, Try.ntmps36
      go_wp2
      go_returns
      exact ⟨ret_bool HF.out, HB⟩
  · by_cases h1 : lo = 0
    · have t1 : (lo == 0) = true := by simp; exact h1
      replace h1 := Lib.hid h1
      have HF : Hid (true = r) := Lib.hid (by
        exact (HR.out.2 ⟨.inr h1.out, .inl rfl⟩).symm)
      clear HR
      go_enter Try.func36, Try.ntmps36
      go_wp2
      go_returns
      exact ⟨ret_bool HF.out, HB⟩
    · have t1 : (lo == 0) = false := by simp; exact h1
      have HF : Hid (false = r) := Lib.hid (by
        cases r with | false => rfl | true => exact absurd ((HR.out.1 rfl).1.resolve_left (by decide)) h1)
      clear HR
      go_enter Try.func36, Try.ntmps36
      go_wp2
      go_returns
      exact ⟨ret_bool HF.out, HB⟩
  · by_cases h2 : hi = 0
    · have t2 : (hi == 0) = true := by simp; exact h2
      replace h2 := Lib.hid h2
      have HF : Hid (true = r) := Lib.hid (by
        exact (HR.out.2 ⟨.inl rfl, .inr h2.out⟩).symm)
      clear HR
      go_enter Try.func36, Try.ntmps36
      go_wp2
      go_returns
      exact ⟨ret_bool HF.out, HB⟩
    · have t2 : (hi == 0) = false := by simp; exact h2
      have HF : Hid (false = r) := Lib.hid (by
        cases r with | false => rfl | true => exact absurd ((HR.out.1 rfl).2.resolve_left (by decide)) h2)
      clear HR
      go_enter Try.func36, Try.ntmps36
      go_wp2
      go_returns
      exact ⟨ret_bool HF.out, HB⟩
  · have HF : Hid (true = r) := Lib.hid (by
      exact (HR.out.2 ⟨.inl rfl, .inl rfl⟩).symm)
    clear HR
    go_enter Try.func36, Try.ntmps36
    go_wp2
    go_returns
    exact ⟨ret_bool HF.out, HB⟩
/-- A list of forms in memory. -/
structure FsAt (w : World) (ao : Option Addr) (n c : Nat) (fs : List Fv) : Prop where
  len : fs.length = n
  le : n ≤ c
  top : c ≤ 9223372036854775807
  at_ : ∀ F ∈ fs, F.At w
  here : 0 < n → ∃ b p, ao = some ⟨b, p, none⟩ ∧ ∀ i (h : i < fs.length), w.cell? ⟨b, p + i * 4, none⟩ = some (.int .i64 fs[i].P) ∧ w.cell? ⟨b, p + i * 4 + 1, none⟩ = some (.int .i64 fs[i].N) ∧ w.cell? ⟨b, p + i * 4 + 2, none⟩ = some (.slice fs[i].co fs[i].cn fs[i].cc) ∧ w.cell? ⟨b, p + i * 4 + 3, none⟩ = some (.slice fs[i].oo fs[i].on fs[i].oc)
theorem FsAt.keep {w w' : World} {ao : Option Addr} {n c : Nat} {fs : List Fv} (h : FsAt w ao n c fs) (k : Below w.heap.size w w') : FsAt w' ao n c fs :=
  ⟨h.len, h.le, h.top, fun F q => (h.at_ F q).keep k, fun hn => by
    obtain ⟨b, p, e, hc⟩ := h.here hn
    exact ⟨b, p, e, fun i hi => by obtain ⟨c0, c1, c2, c3⟩ := hc i hi; exact ⟨cell_keep c0 k, cell_keep c1 k, cell_keep c2 k, cell_keep c3 k⟩⟩⟩
/-- A list of constraints in memory. -/
structure KsAt (w : World) (ao : Option Addr) (n c : Nat) (ks : List Cn) : Prop where
  len : ks.length = n
  le : n ≤ c
  top : c ≤ 9223372036854775807
  here : 0 < n → ∃ b p, ao = some ⟨b, p, none⟩ ∧ ∀ i (h : i < ks.length), w.cell? ⟨b, p + i * 7, none⟩ = some (.int .i64 ks[i].x) ∧ w.cell? ⟨b, p + i * 7 + 1, none⟩ = some (.int .i64 ks[i].y) ∧ w.cell? ⟨b, p + i * 7 + 2, none⟩ = some (.int .i64 ks[i].f) ∧ w.cell? ⟨b, p + i * 7 + 3, none⟩ = some (.int .i64 ks[i].lo) ∧ w.cell? ⟨b, p + i * 7 + 4, none⟩ = some (.int .i64 ks[i].hi) ∧ w.cell? ⟨b, p + i * 7 + 5, none⟩ = some (.bool ks[i].hl) ∧ w.cell? ⟨b, p + i * 7 + 6, none⟩ = some (.bool ks[i].hh)
theorem KsAt.keep {w w' : World} {ao : Option Addr} {n c : Nat} {ks : List Cn} (h : KsAt w ao n c ks) (k : Below w.heap.size w w') : KsAt w' ao n c ks :=
  ⟨h.len, h.le, h.top, fun hn => by
    obtain ⟨b, p, e, hc⟩ := h.here hn
    exact ⟨b, p, e, fun i hi => by obtain ⟨c0, c1, c2, c3, c4, c5, c6⟩ := hc i hi; exact ⟨cell_keep c0 k, cell_keep c1 k, cell_keep c2 k, cell_keep c3 k, cell_keep c4 k, cell_keep c5 k, cell_keep c6 k⟩⟩⟩
/-- A network. -/
structure Nv where
  vars : Int
  fo : Option Addr
  fn : Nat
  fc : Nat
  ko : Option Addr
  kn : Nat
  kc : Nat
  fs : List Fv
  ks : List Cn
structure Nv.At (n : Nv) (w : World) : Prop where
  v1 : -9223372036854775808 ≤ n.vars
  v2 : n.vars ≤ 9223372036854775807
  forms : FsAt w n.fo n.fn n.fc n.fs
  cons : KsAt w n.ko n.kn n.kc n.ks
theorem Nv.At.keep {n : Nv} {w w' : World} (h : n.At w) (k : Below w.heap.size w w') : n.At w' := ⟨h.v1, h.v2, h.forms.keep k, h.cons.keep k⟩
abbrev Nv.box (n : Nv) : Array Value := #[.int .i64 n.vars, .slice n.fo n.fn n.fc, .slice n.ko n.kn n.kc]
abbrev Nv.v (n : Nv) : Value := .agg n.box
def FitsC (vars : Int) (fn : Nat) (c : Cn) : Prop := (0 ≤ c.x ∧ c.x < vars) ∧ (0 ≤ c.y ∧ c.y < vars) ∧ 0 ≤ c.f ∧ c.f < (fn : Int)
/-- What is in range. -/
def Own (vars : Int) (ts : List Int) : Prop := (ts.length : Int) = vars ∧ ∀ t ∈ ts, -1099511627776 ≤ t ∧ t ≤ 1099511627776
def Met (fs : List Fv) (vars : Int) (ts : List Int) (c : Cn) : Prop := FitsC vars fs.length c ∧ ∃ F a b i j, fs[c.f.toNat]? = some F ∧ ts[c.x.toNat]? = some a ∧ ts[c.y.toNat]? = some b ∧ AtIs F a i true ∧ AtIs F b j true ∧ InRg c.lo c.hi c.hl c.hh (j - i)
set_option maxHeartbeats 2000000 in
theorem fits_any (n : Nv) (c : Cn) (w : World) (r : Bool) (hr : r = true ↔ FitsC n.vars n.fn c) (hfn : n.fn ≤ 9223372036854775807) : Calls Try.prog 35 #[n.v, c.v] w fun e w' => e = .returned (.bool r) ∧ Hid (Below w.heap.size w w') := by
  obtain ⟨vars, fo, fn, fc, ko, kn, kc, fs, ks⟩ := n
  obtain ⟨x, y, f, lo, hi, hl, hh⟩ := c
  have HR : Hid (r = true ↔ ((0 ≤ x ∧ x < vars) ∧ (0 ≤ y ∧ y < vars) ∧ 0 ≤ f ∧ f < (fn : Int))) := Lib.hid hr
  have hfn : fn ≤ 9223372036854775807 := hfn
  clear hr
  have HB : Hid (Below w.heap.size w ((w.alloc (.cells #[.int .i64 vars, .slice fo fn fc, .slice ko kn kc] 38)).alloc (.cells #[.int .i64 x, .int .i64 y, .int .i64 f, .int .i64 lo, .int .i64 hi, .bool hl, .bool hh] 42))) := Lib.hid (((Below.refl _ _).alloc (Nat.le_refl _) _).alloc (by simp) _)
  show Calls Try.prog 35 #[.agg #[.int .i64 vars, .slice fo fn fc, .slice ko kn kc], .agg #[.int .i64 x, .int .i64 y, .int .i64 f, .int .i64 lo, .int .i64 hi, .bool hl, .bool hh]] w _
  by_cases h0 : 0 ≤ x
  · have t0 : decide (0 ≤ x) = true := by simp; omega
    by_cases h1 : x < vars
    · have t1 : decide (x < vars) = true := by simp; omega
      by_cases h2 : 0 ≤ y
      · have t2 : decide (0 ≤ y) = true := by simp; omega
        by_cases h3 : y < vars
        · have t3 : decide (y < vars) = true := by simp; omega
          by_cases h4 : 0 ≤ f
          · have t4 : decide (0 ≤ f) = true := by simp; omega
            by_cases h5 : f < (fn : Int)
            · have t5 : decide (f < (fn : Int)) = true := by simp; omega
              have HF : Hid (true = r) := Lib.hid (by
                exact (HR.out.2 ⟨⟨by omega, by omega⟩, ⟨by omega, by omega⟩, by omega, by omega⟩).symm)
              clear HR
              go_enter Try.func35, Try.ntmps35
              go_wp2
              go_returns
              exact ⟨ret_bool HF.out, HB⟩
            · have t5 : decide (f < (fn : Int)) = false := by simp; omega
              have HF : Hid (false = r) := Lib.hid (by
                cases r with | false => rfl | true => exact absurd ((HR.out.1 rfl).2.2.2) (by show ¬ (f < (fn : Int)); omega))
              clear HR
              go_enter Try.func35, Try.ntmps35
              go_wp2
              go_returns
              exact ⟨ret_bool HF.out, HB⟩
          · have t4 : decide (0 ≤ f) = false := by simp; omega
            have HF : Hid (false = r) := Lib.hid (by
              cases r with | false => rfl | true => exact absurd ((HR.out.1 rfl).2.2.1) (by show ¬ (0 ≤ f); omega))
            clear HR
            go_enter Try.func35, Try.ntmps35
            go_wp2
            go_returns
            exact ⟨ret_bool HF.out, HB⟩
        · have t3 : decide (y < vars) = false := by simp; omega
          have HF : Hid (false = r) := Lib.hid (by
            cases r with | false => rfl | true => exact absurd ((HR.out.1 rfl).2.1.2) (by show ¬ (y < vars); omega))
          clear HR
          go_enter Try.func35, Try.ntmps35
          go_wp2
          go_returns
          exact ⟨ret_bool HF.out, HB⟩
      · have t2 : decide (0 ≤ y) = false := by simp; omega
        have HF : Hid (false = r) := Lib.hid (by
          cases r with | false => rfl | true => exact absurd ((HR.out.1 rfl).2.1.1) (by show ¬ (0 ≤ y); omega))
        clear HR
        go_enter Try.func35, Try.ntmps35
        go_wp2
        go_returns
        exact ⟨ret_bool HF.out, HB⟩
    · have t1 : decide (x < vars) = false := by simp; omega
      have HF : Hid (false = r) := Lib.hid (by
        cases r with | false => rfl | true => exact absurd ((HR.out.1 rfl).1.2) (by show ¬ (x < vars); omega))
      clear HR
      go_enter Try.func35, Try.ntmps35
      go_wp2
      go_returns
      exact ⟨ret_bool HF.out, HB⟩
  · have t0 : decide (0 ≤ x) = false := by simp; omega
    have HF : Hid (false = r) := Lib.hid (by
      cases r with | false => rfl | true => exact absurd ((HR.out.1 rfl).1.1) (by show ¬ (0 ≤ x); omega))
    clear HR
    go_enter Try.func35, Try.ntmps35
    go_wp2
    go_returns
    exact ⟨ret_bool HF.out, HB⟩
theorem own_step {ts : List Int} {i : Nat} (h : i < ts.length) : (∀ t ∈ ts.take (i + 1), -1099511627776 ≤ t ∧ t ≤ 1099511627776) ↔ (∀ t ∈ ts.take i, -1099511627776 ≤ t ∧ t ≤ 1099511627776) ∧ -1099511627776 ≤ ts[i] ∧ ts[i] ≤ 1099511627776 := by
  rw [List.take_succ_eq_append_getElem h]
  constructor
  · intro q; exact ⟨fun t ht => q t (List.mem_append.2 (.inl ht)), q _ (List.mem_append.2 (.inr (List.mem_singleton.2 rfl)))⟩
  · rintro ⟨a, b⟩ t ht
    rcases List.mem_append.1 ht with z | z
    · exact a t z
    · rw [List.mem_singleton.1 z]; exact b
set_option maxHeartbeats 2000000 in
theorem belong_any (n : Nv) (ao : Option Addr) (m c : Nat) (ts : List Int) (w : World) (ht : IzAt w ao m c ts) (r : Bool) (hr : r = true ↔ Own n.vars ts) : Calls Try.prog 24 #[n.v, .slice ao m c] w fun e w' => e = .returned (.bool r) ∧ Hid (Below w.heap.size w w') := by
  obtain ⟨vars, fo, fn, fc, ko, kn, kc, fs, ks⟩ := n
  have HR : Hid (r = true ↔ Own vars ts) := Lib.hid hr
  have HT := Lib.hid ht
  have LT := Lib.hid ht.len
  have hm : m ≤ 9223372036854775807 := Nat.le_trans ht.le ht.top
  clear hr ht
  obtain ⟨wb, hwb⟩ : ∃ wb, w.alloc (.cells #[.int .i64 vars, .slice fo fn fc, .slice ko kn kc] 38) = wb := ⟨_, rfl⟩
  obtain ⟨b, hb⟩ : ∃ b, w.heap.size = b := ⟨_, rfl⟩
  have K : Hid (Below w.heap.size w wb) := Lib.hid (by rw [← hwb]; exact (Below.refl _ _).alloc (Nat.le_refl _) _)
  have HC : Hid (wb.heap[b]? = some (.cells #[.int .i64 vars, .slice fo fn fc, .slice ko kn kc] 38 (0, 0))) := Lib.hid (by rw [← hwb]; exact heap_at hb)
  show Calls Try.prog 24 #[.agg #[.int .i64 vars, .slice fo fn fc, .slice ko kn kc], .slice ao m c] w _
  go_enter Try.func24, Try.ntmps24
  go_upto_region 1 with fail
  clear hwb hb
  have e0 : wb.cell? ⟨b, 0, none⟩ = some (.int .i64 vars) := cell_block HC.out 0
  by_cases hv : (m : Int) = vars
  · have t1 : ((m : Int) != vars) = false := by simp; exact hv
    have HV := Lib.hid hv
    clear hv
    go_wp2
    go_loopw [14] (fun ii wr => ∃ i : Nat, i ≤ m ∧ ii = .int .i64 i ∧ Hid (∀ t ∈ ts.take i, -1099511627776 ≤ t ∧ t ≤ 1099511627776) ∧ Hid (Below wb.heap.size wb wr)) (fun ii _ => m - (intOf ii).toNat)
    case atStart => exact ⟨0, Nat.zero_le _, rfl, Lib.hid (fun t h => by cases h), Lib.hid (Below.refl _ _)⟩
    case round =>
      obtain ⟨i, hi, rfl, HI, HW⟩ := hrel
      by_cases ilt : i < m
      · have hil : i < ts.length := by rw [LT.out]; exact ilt
        obtain ⟨g, p, rfl, hc⟩ := HT.out.here (by omega)
        have c1 := cell_keep (cell_keep (hc i hil) K.out) HW.out
        have HS := Lib.hid (own_step hil)
        obtain ⟨t, et⟩ : ∃ t, ts[i] = t := ⟨_, rfl⟩
        have HME : Hid (t ∈ ts) := Lib.hid (et ▸ List.getElem_mem hil)
        rw [et] at c1 HS
        have i0 : (0 : Int) ≤ (i : Int) := by omega
        have i1 : (i : Int) < (m : Int) := by omega
        clear hc hil et
        by_cases h1 : t < -1099511627776
        · have HF : Hid (false = r) := Lib.hid (by cases r with | false => rfl | true => have := (HR.out.1 rfl).2 t HME.out; omega)
          clear HR
          go_wp2
          go_returns
          exact ⟨ret_bool HF.out, Lib.hid (K.out.trans (HW.out.mono K.out.size))⟩
        · by_cases h2 : 1099511627776 < t
          · have HF : Hid (false = r) := Lib.hid (by cases r with | false => rfl | true => have := (HR.out.1 rfl).2 t HME.out; omega)
            clear HR
            go_wp2
            go_returns
            exact ⟨ret_bool HF.out, Lib.hid (K.out.trans (HW.out.mono K.out.size))⟩
          · have HI2 : Hid (∀ t ∈ ts.take (i + 1), -1099511627776 ≤ t ∧ t ≤ 1099511627776) := Lib.hid (HS.out.2 ⟨HI.out, by omega, by omega⟩)
            have t2 : decide (t < -1099511627776) = false := by simp; omega
            have t3 : decide (1099511627776 < t) = false := by simp; omega
            go_wp2
            go_roundw
            case rel => exact ⟨i + 1, by omega, by go_num, HI2, HW⟩
            case measure => simp [intOf]; omega
      · obtain rfl : m = i := by omega
        have HF : Hid (true = r) := Lib.hid ((HR.out.2 ⟨by rw [LT.out]; exact HV.out, fun t h => HI.out t (by rw [List.take_of_length_le (by rw [LT.out]; exact Nat.le_refl _)]; exact h)⟩).symm)
        clear HR
        go_wp2
        go_returns
        exact ⟨ret_bool HF.out, Lib.hid (K.out.trans (HW.out.mono K.out.size))⟩
  · have t1 : ((m : Int) != vars) = true := by simp; exact hv
    have HF : Hid (false = r) := Lib.hid (by cases r with | false => rfl | true => exact absurd ((HR.out.1 rfl).1) (by rw [LT.out]; exact hv))
    clear HR hv
    go_wp2
    go_returns
    exact ⟨ret_bool HF.out, K⟩
end Go.Proofs.Ytaobhhgalkkmaaa
