/- Contracts: Set of a network. -/
import Derived.Test.YtnhbinghinlhgaaD
import Derived.Deep.RegionHeld3
import Derived.BigRegion
import Derived.Deep.DeepCutAuto
namespace Go.Proofs.Ytnhbinghinlhgaa
set_option linter.unusedVariables false
set_option linter.unusedSimpArgs false
open Go.ChangeShapes Go.WideShapes Go.ChangeAt Go.RowKit

theorem addr_eq {b q b' q' : Nat} (h : (⟨b, q, none⟩ : Addr) = ⟨b', q', none⟩) : b = b' ∧ q = q' := ⟨(Addr.mk.inj h).1, (Addr.mk.inj h).2.1⟩
theorem below_of {B : Nat} {w u w' : World} (h : Below B u w') (e1 : u.os = w.os) (e2 : u.tape = w.tape) (e3 : u.output = w.output) (e4 : u.heap = w.heap) : Below B w w' :=
  ⟨h.os.trans e1, h.tape.trans e2, h.output.trans e3, e4 ▸ h.size, fun k hk => e4 ▸ h.block k hk⟩
def upd (M : Mat) (i j : Nat) (v : Bd) : Mat := fun a d => if a = i ∧ d = j then v else M a d
/-- The world behind a store of a bound. -/
def storeB (w : World) (b q : Nat) (v : Bd) : World := (w.setCell ⟨b, q, none⟩ (.int .i8 (infOf v))).setCell ⟨b, q + 1, none⟩ (.int .i64 (numOf v))
theorem storeB_far {w : World} {b q : Nat} {v : Bd} {a : Addr} (h : a ≠ ⟨b, q, none⟩) (h' : a ≠ ⟨b, q + 1, none⟩) : (storeB w b q v).cell? a = w.cell? a := by
  unfold storeB
  rw [cell_other (fun e => h' e.symm), cell_other (fun e => h e.symm)]
theorem storeB_frozen {w : World} {b q : Nat} {v : Bd} {a : Addr} : (storeB w b q v).frozen? a = w.frozen? a := by
  unfold storeB
  rw [World.frozen?_setCell, World.frozen?_setCell]
theorem storeB_size {w : World} {b q : Nat} {v : Bd} : (storeB w b q v).heap.size = w.heap.size := by
  unfold storeB
  simp [World.setCell]
theorem storeB_below {B : Nat} {w0 w : World} {b q : Nat} {v : Bd} (h : Below B w0 w) (hb : B ≤ b) : Below B w0 (storeB w b q v) := (h.setCell hb _).setCell hb _
theorem NetOwn.lower {w : World} {B B' g o n : Nat} {b p c : Nat → Nat} {M : Mat} (h : NetOwn w B g o n b p c M) (k : B' ≤ B) : NetOwn w B' g o n b p c M :=
  ⟨h.net, Nat.le_trans k h.lo, h.hi, fun i hi => Nat.le_trans k (h.low i hi), h.high, h.free, h.ne, h.inj⟩
theorem NetOwn.drew {w : World} {B g o n : Nat} {b p c : Nat → Nat} {M : Mat} (h : NetOwn w B g o n b p c M) : NetOwn w.drew B g o n b p c M :=
  ⟨⟨h.net.row, h.net.cap, fun i hi => ⟨(h.net.cells i hi).inf, (h.net.cells i hi).num⟩⟩, h.lo, h.hi, h.low, h.high, h.free, h.ne, h.inj⟩
theorem NetOwn.put {w : World} {B g o n : Nat} {b p c : Nat → Nat} {M : Mat} (h : NetOwn w B g o n b p c M) {i j : Nat} (hi : i < n) (hj : j < n) (v : Bd) :
    NetOwn (storeB w (b i) (p i + j * 2) v) B g o n b p c (upd M i j v) := by
  refine ⟨⟨fun t ht => ?_, h.net.cap, fun t ht => ⟨fun s hs => ?_, fun s hs => ?_⟩⟩, h.lo, by rw [storeB_size]; exact h.hi, h.low, fun t ht => by rw [storeB_size]; exact h.high t ht, fun t ht k => by rw [storeB_frozen]; exact h.free t ht k, h.ne, h.inj⟩
  · rw [storeB_far (fun e => h.ne i hi (addr_eq e).1.symm) (fun e => h.ne i hi (addr_eq e).1.symm)]
    exact h.net.row t ht
  · have o1 := (h.net.cells t ht).inf s hs
    by_cases q : t = i ∧ s = j
    · obtain ⟨rfl, rfl⟩ := q
      rw [show upd M t s v t s = v from if_pos ⟨rfl, rfl⟩]
      unfold storeB
      rw [cell_other (fun e => by have := (addr_eq e).2; omega)]
      exact cell_same o1
    · rw [show upd M i j v t s = M t s from if_neg q]
      rw [storeB_far (fun e => ?_) (fun e => ?_)]
      · exact o1
      · obtain ⟨e1, e2⟩ := addr_eq e
        have := h.inj t i ht hi e1
        subst this
        exact q ⟨rfl, by omega⟩
      · obtain ⟨e1, e2⟩ := addr_eq e
        have := h.inj t i ht hi e1
        subst this
        omega
  · have o1 := (h.net.cells t ht).num s hs
    by_cases q : t = i ∧ s = j
    · obtain ⟨rfl, rfl⟩ := q
      rw [show upd M t s v t s = v from if_pos ⟨rfl, rfl⟩]
      unfold storeB
      refine cell_same (u := .int .i64 (numOf (M t s))) ?_
      rw [cell_other (fun e => by have := (addr_eq e).2; omega)]
      exact o1
    · rw [show upd M i j v t s = M t s from if_neg q]
      rw [storeB_far (fun e => ?_) (fun e => ?_)]
      · exact o1
      · obtain ⟨e1, e2⟩ := addr_eq e
        have := h.inj t i ht hi e1
        subst this
        omega
      · obtain ⟨e1, e2⟩ := addr_eq e
        have := h.inj t i ht hi e1
        subst this
        exact q ⟨rfl, by omega⟩

/-- A network that has been made, no error told. -/
def MadeOk (w w' : World) (n : Nat) (M : Mat) (e : Ending) : Prop :=
  ∃ g o k b p c, e = .returned (.tuple #[.slice (some ⟨g, o, none⟩) n k, .int .i64 0]) ∧ n ≤ k ∧ k ≤ 9223372036854775807 ∧ Hid (NetOwn w' w.heap.size g o n b p c M) ∧ Hid (Below w.heap.size w w')
theorem less_bd (a b : Bd) (w : World) : Calls Try.prog 29 #[.agg #[.int .i8 (infOf a), .int .i64 (numOf a)], .agg #[.int .i8 (infOf b), .int .i64 (numOf b)]] w fun e w' => e = .returned (.bool (Bd.lt a b)) ∧ Below w.heap.size w w' := by
  have h := less_any (infOf a) (numOf a) (infOf b) (numOf b) w
  rw [less_enc] at h
  exact h

theorem box_cells (w : World) (x y : Value) (t : TypeId) : (w.alloc (.cells #[x, y] t)).cell? ⟨w.heap.size, 0, none⟩ = some x ∧ (w.alloc (.cells #[x, y] t)).cell? ⟨w.heap.size, 1, none⟩ = some y := by
  have h : (w.alloc (.cells #[x, y] t)).heap[w.heap.size]? = some (.cells #[x, y] t) := by
    show (w.heap.push _)[w.heap.size]? = _
    simp
  constructor <;> (unfold World.cell?; rw [h]; rfl)

set_option maxRecDepth 100000 in
set_option maxHeartbeats 4000000 in
theorem set_yes (g o n k : Nat) (b p c : Nat → Nat) (M : Mat) (hn : n ≤ 24) (hk : n ≤ k) (hk' : k ≤ 9223372036854775807) (hM : Fits n M) (i j : Nat) (hi : i < n) (hj : j < n) (v : Bd) (hv : Fit v) (hl : Bd.lt v (M i j) = true) (w : World) (hw : NetAt w g o n b p c M) :
    Calls Try.prog 14 #[.slice (some ⟨g, o, none⟩) n k, .int .i64 i, .int .i64 j, .agg #[.int .i8 (infOf v), .int .i64 (numOf v)]] w fun e w' => MadeOk w w' n (upd M i j v) e := by
  have HW := Lib.hid hw
  have A := Lib.hid (allowed_enc v hv)
  have R := Lib.hid (fun (w' : World) (hb : Below w.heap.size w w') => right_net g o n k b p c M hn hk hk' hM w' (hw.keep hb))
  have C := Lib.hid (fun (w' : World) (hb : Below w.heap.size w w') => copied_net g o n k b p c M hn (by omega) hk hk' w' (hw.keep hb))
  have L0 := less_bd v (M i j)
  rw [hl] at L0
  have L := Lib.hid L0
  clear L0
  obtain ⟨x, hx⟩ : ∃ x, infOf v = x := ⟨_, rfl⟩
  obtain ⟨y, hy⟩ : ∃ y, numOf v = y := ⟨_, rfl⟩
  have HX := Lib.hid hx
  have HY := Lib.hid hy
  rw [hx, hy] at A L
  rw [hx, hy]
  obtain ⟨X, hX⟩ : ∃ X, infOf (M i j) = X := ⟨_, rfl⟩
  obtain ⟨Y, hY⟩ : ∃ Y, numOf (M i j) = Y := ⟨_, rfl⟩
  have HX2 := Lib.hid hX
  have HY2 := Lib.hid hY
  rw [hX, hY] at L
  have i0 : (0 : Int) ≤ (i : Int) := by omega
  have i1 : (i : Int) < (n : Int) := by omega
  have j0 : (0 : Int) ≤ (j : Int) := by omega
  have j1 : (j : Int) < (n : Int) := by omega
  have t1 : ¬ ((i : Int) < 0) := by omega
  have t2 : ¬ ((n : Int) ≤ (i : Int)) := by omega
  have t3 : ¬ ((j : Int) < 0) := by omega
  have t4 : ¬ ((n : Int) ≤ (j : Int)) := by omega
  clear hx hy hl hv hM hw hX hY
  go_enter Try.func14, Try.ntmps14
  go_upto_region 4 with (first
    | (go_at_call 11; (with_reducible refine (R.out _ ((Below.refl _ w).alloc (Nat.le_refl _) _)).mono ?_); rintro e w1 ⟨rfl, b1⟩; have HB1 := Lib.hid (((Below.refl _ w).alloc (Nat.le_refl _) (.cells #[.int .i8 x, .int .i64 y] 26)).trans (b1.mono (by simp))); have HC1 := Lib.hid (And.intro (cell_keep (box_cells w (.int .i8 x) (.int .i64 y) 26).1 b1) (cell_keep (box_cells w (.int .i8 x) (.int .i64 y) 26).2 b1)); have c1 := HC1.out.1; have c2 := HC1.out.2; clear b1)
    | (go_at_call 25; (with_reducible refine (A.out _).mono ?_); rintro e w2 ⟨rfl, b2⟩; have HB2 := Lib.hid (HB1.out.trans (b2.mono HB1.out.size)); have d1 := cell_keep c1 b2; have d2 := cell_keep c2 b2; clear c1 c2 b2)
    | (go_at_call 28; (with_reducible refine (C.out _ HB2.out).mono ?_); rintro e w3 ⟨g', o', k', b', p', c', rfl, hk1, hk2, HN, HB3⟩; have e1 := cell_keep d1 HB3.out; have e2 := cell_keep d2 HB3.out; clear d1 d2))
  have f1 := HN.out.net.row i hi
  have f2 := (HN.out.net.cells i hi).inf j hj
  have f3 := (HN.out.net.cells i hi).num j hj
  rw [HX2.out] at f2
  rw [HY2.out] at f3
  obtain ⟨bi, hbi⟩ : ∃ q, b' i = q := ⟨_, rfl⟩
  obtain ⟨pi, hpi⟩ : ∃ q, p' i = q := ⟨_, rfl⟩
  obtain ⟨ci, hci⟩ : ∃ q, c' i = q := ⟨_, rfl⟩
  rw [hbi, hpi, hci] at f1
  rw [hbi, hpi] at f2 f3
  have HBI := Lib.hid hbi
  have HPI := Lib.hid hpi
  clear hbi hpi hci
  go_region_held3 (fun w' => w'.cell? ⟨w.heap.size, 0, none⟩ = some (.int .i8 x) ∧ w'.cell? ⟨w.heap.size, 1, none⟩ = some (.int .i64 y) ∧ w'.cell? ⟨g', o' + i, none⟩ = some (.slice (some ⟨bi, pi, none⟩) n ci) ∧ w'.cell? ⟨bi, pi + j * 2, none⟩ = some (.int .i8 X) ∧ w'.cell? ⟨bi, pi + j * 2 + 1, none⟩ = some (.int .i64 Y)) (first | go_keep | exact ⟨cell_keep (by assumption) b4, cell_keep (by assumption) b4, cell_keep (by assumption) b4, cell_keep (by assumption) b4, cell_keep (by assumption) b4⟩)
    ((go_at_call 29; (with_reducible refine (L.out _).mono ?_); rintro e w4 ⟨rfl, b4⟩))
  have b5 := below_of (w := w3) b4 rfl rfl rfl rfl
  have HN4 := Lib.hid (HN.out.keep b5)
  have HB4 := Lib.hid ((HB2.out.trans (HB3.out.mono HB2.out.size)).trans (b5.mono (Nat.le_trans HB2.out.size HB3.out.size)))
  have m1 := cell_keep e1 b5
  have m2 := cell_keep e2 b5
  have m3 := cell_keep f1 b5
  have m4 := cell_keep f2 b5
  have m5 := cell_keep f3 b5
  have n1 : w4.frozen? ⟨bi, pi + j * 2, none⟩ = false := HBI.out ▸ HN4.out.free i hi _
  have n2 : w4.frozen? ⟨bi, pi + j * 2 + 1, none⟩ = false := HBI.out ▸ HN4.out.free i hi _
  clear b4 b5 e1 e2 f1 f2 f3
  go_wp2
  go_region
  go_wp2
  go_returns
  have hp := ((HN4.out.put hi hj v).lower HB2.out.size).drew
  unfold storeB at hp
  rw [HX.out, HY.out, HBI.out, HPI.out] at hp
  refine ⟨g', o', k', b', p', c', rfl, hk1, hk2, Lib.hid hp, Lib.hid ?_⟩
  have lo : w.heap.size ≤ bi := by rw [← HBI.out]; exact Nat.le_trans HB2.out.size (HN4.out.low i hi)
  exact ((HB4.out.setCell (p := ⟨bi, pi + j * 2, none⟩) lo _).setCell (p := ⟨bi, pi + j * 2 + 1, none⟩) lo _).drew
set_option maxRecDepth 100000 in
set_option maxHeartbeats 4000000 in
theorem set_no (g o n k : Nat) (b p c : Nat → Nat) (M : Mat) (hn : n ≤ 24) (hk : n ≤ k) (hk' : k ≤ 9223372036854775807) (hM : Fits n M) (i j : Nat) (hi : i < n) (hj : j < n) (v : Bd) (hv : Fit v) (hl : Bd.lt v (M i j) = false) (w : World) (hw : NetAt w g o n b p c M) :
    Calls Try.prog 14 #[.slice (some ⟨g, o, none⟩) n k, .int .i64 i, .int .i64 j, .agg #[.int .i8 (infOf v), .int .i64 (numOf v)]] w fun e w' => MadeOk w w' n M e := by
  have HW := Lib.hid hw
  have A := Lib.hid (allowed_enc v hv)
  have R := Lib.hid (fun (w' : World) (hb : Below w.heap.size w w') => right_net g o n k b p c M hn hk hk' hM w' (hw.keep hb))
  have C := Lib.hid (fun (w' : World) (hb : Below w.heap.size w w') => copied_net g o n k b p c M hn (by omega) hk hk' w' (hw.keep hb))
  have L0 := less_bd v (M i j)
  rw [hl] at L0
  have L := Lib.hid L0
  clear L0
  obtain ⟨x, hx⟩ : ∃ x, infOf v = x := ⟨_, rfl⟩
  obtain ⟨y, hy⟩ : ∃ y, numOf v = y := ⟨_, rfl⟩
  have HX := Lib.hid hx
  have HY := Lib.hid hy
  rw [hx, hy] at A L
  rw [hx, hy]
  obtain ⟨X, hX⟩ : ∃ X, infOf (M i j) = X := ⟨_, rfl⟩
  obtain ⟨Y, hY⟩ : ∃ Y, numOf (M i j) = Y := ⟨_, rfl⟩
  have HX2 := Lib.hid hX
  have HY2 := Lib.hid hY
  rw [hX, hY] at L
  have i0 : (0 : Int) ≤ (i : Int) := by omega
  have i1 : (i : Int) < (n : Int) := by omega
  have j0 : (0 : Int) ≤ (j : Int) := by omega
  have j1 : (j : Int) < (n : Int) := by omega
  have t1 : ¬ ((i : Int) < 0) := by omega
  have t2 : ¬ ((n : Int) ≤ (i : Int)) := by omega
  have t3 : ¬ ((j : Int) < 0) := by omega
  have t4 : ¬ ((n : Int) ≤ (j : Int)) := by omega
  clear hx hy hl hv hM hw hX hY
  go_enter Try.func14, Try.ntmps14
  go_upto_region 4 with (first
    | (go_at_call 11; (with_reducible refine (R.out _ ((Below.refl _ w).alloc (Nat.le_refl _) _)).mono ?_); rintro e w1 ⟨rfl, b1⟩; have HB1 := Lib.hid (((Below.refl _ w).alloc (Nat.le_refl _) (.cells #[.int .i8 x, .int .i64 y] 26)).trans (b1.mono (by simp))); have HC1 := Lib.hid (And.intro (cell_keep (box_cells w (.int .i8 x) (.int .i64 y) 26).1 b1) (cell_keep (box_cells w (.int .i8 x) (.int .i64 y) 26).2 b1)); have c1 := HC1.out.1; have c2 := HC1.out.2; clear b1)
    | (go_at_call 25; (with_reducible refine (A.out _).mono ?_); rintro e w2 ⟨rfl, b2⟩; have HB2 := Lib.hid (HB1.out.trans (b2.mono HB1.out.size)); have d1 := cell_keep c1 b2; have d2 := cell_keep c2 b2; clear c1 c2 b2)
    | (go_at_call 28; (with_reducible refine (C.out _ HB2.out).mono ?_); rintro e w3 ⟨g', o', k', b', p', c', rfl, hk1, hk2, HN, HB3⟩; have e1 := cell_keep d1 HB3.out; have e2 := cell_keep d2 HB3.out; clear d1 d2))
  have f1 := HN.out.net.row i hi
  have f2 := (HN.out.net.cells i hi).inf j hj
  have f3 := (HN.out.net.cells i hi).num j hj
  rw [HX2.out] at f2
  rw [HY2.out] at f3
  obtain ⟨bi, hbi⟩ : ∃ q, b' i = q := ⟨_, rfl⟩
  obtain ⟨pi, hpi⟩ : ∃ q, p' i = q := ⟨_, rfl⟩
  obtain ⟨ci, hci⟩ : ∃ q, c' i = q := ⟨_, rfl⟩
  rw [hbi, hpi, hci] at f1
  rw [hbi, hpi] at f2 f3
  have HBI := Lib.hid hbi
  have HPI := Lib.hid hpi
  clear hbi hpi hci
  go_region_held3 (fun w' => w'.cell? ⟨w.heap.size, 0, none⟩ = some (.int .i8 x) ∧ w'.cell? ⟨w.heap.size, 1, none⟩ = some (.int .i64 y) ∧ w'.cell? ⟨g', o' + i, none⟩ = some (.slice (some ⟨bi, pi, none⟩) n ci) ∧ w'.cell? ⟨bi, pi + j * 2, none⟩ = some (.int .i8 X) ∧ w'.cell? ⟨bi, pi + j * 2 + 1, none⟩ = some (.int .i64 Y)) (first | go_keep | exact ⟨cell_keep (by assumption) b4, cell_keep (by assumption) b4, cell_keep (by assumption) b4, cell_keep (by assumption) b4, cell_keep (by assumption) b4⟩)
    ((go_at_call 29; (with_reducible refine (L.out _).mono ?_); rintro e w4 ⟨rfl, b4⟩))
  have b5 := below_of (w := w3) b4 rfl rfl rfl rfl
  have HN4 := Lib.hid (HN.out.keep b5)
  have HB4 := Lib.hid ((HB2.out.trans (HB3.out.mono HB2.out.size)).trans (b5.mono (Nat.le_trans HB2.out.size HB3.out.size)))
  have m1 := cell_keep e1 b5
  have m2 := cell_keep e2 b5
  have m3 := cell_keep f1 b5
  have m4 := cell_keep f2 b5
  have m5 := cell_keep f3 b5
  have n1 : w4.frozen? ⟨bi, pi + j * 2, none⟩ = false := HBI.out ▸ HN4.out.free i hi _
  have n2 : w4.frozen? ⟨bi, pi + j * 2 + 1, none⟩ = false := HBI.out ▸ HN4.out.free i hi _
  clear b4 b5 e1 e2 f1 f2 f3
  go_wp2
  go_returns
  exact ⟨g', o', k', b', p', c', rfl, hk1, hk2, Lib.hid (HN4.out.lower HB2.out.size), HB4⟩

/-- A network with a bound more, told by Set. -/
theorem set_net (g o n k : Nat) (b p c : Nat → Nat) (M : Mat) (hn : n ≤ 24) (hk : n ≤ k) (hk' : k ≤ 9223372036854775807) (hM : Fits n M) (i j : Nat) (hi : i < n) (hj : j < n) (v : Bd) (hv : Fit v) (w : World) (hw : NetAt w g o n b p c M) :
    Calls Try.prog 14 #[.slice (some ⟨g, o, none⟩) n k, .int .i64 i, .int .i64 j, .agg #[.int .i8 (infOf v), .int .i64 (numOf v)]] w fun e w' => MadeOk w w' n (put M i j v) e := by
  cases hl : Bd.lt v (M i j)
  · have e : put M i j v = M := by
      funext a d
      unfold put Bd.low
      split
      · rename_i q
        obtain ⟨rfl, rfl⟩ := q
        first | (rw [hl]; rfl) | rfl | simp [hl]
      · rfl
    rw [e]
    exact set_no g o n k b p c M hn hk hk' hM i j hi hj v hv hl w hw
  · have e : put M i j v = upd M i j v := by
      funext a d
      unfold put upd Bd.low
      split
      · rename_i q
        obtain ⟨rfl, rfl⟩ := q
        first | (rw [hl]; rfl) | rfl | simp [hl]
      · rfl
    rw [e]
    exact set_yes g o n k b p c M hn hk hk' hM i j hi hj v hv hl w hw
end Go.Proofs.Ytnhbinghinlhgaa
