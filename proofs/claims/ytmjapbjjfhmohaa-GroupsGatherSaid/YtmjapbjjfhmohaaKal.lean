/- Sp2, Sp3 in one. -/
import Derived.Test.YtmjapbjjfhmohaaKa
import Derived.BigQuiet
import Derived.BigRegion
import Derived.Deep.DeepCutAuto
import Derived.Deep.DeepFit
import Derived.Deep.QuietTactic
import Derived.Deep.RegionHeld3
import Derived.Handy
import Derived.Laws.AppendOwn
import Derived.Laws.Bits64b
import Derived.Lib.Hide
import Derived.Lib.Mul64
import Derived.Maps.AppendAt
import Derived.OpenShut
import Derived.Outline
import Derived.OwnWalk
import Derived.ProofKit
import Derived.ScopeJumps
import Derived.WalkKit
import Derived.WalkMore
import Derived.WalkSpells
import Derived.LoopIn
import Derived.LoopNIn
import Derived.OwnWalkIn
import Derived.RangeFuncBound
import Derived.RangeFuncCalls
import Derived.RangeFuncLeaves
import Derived.RangeFuncNested
import Derived.Shelf.Abstract
import Derived.Shelf.RegionOpen
import Derived.TacticsInMore
namespace Go.Proofs.Ytmjapbjjfhmohaa
set_option linter.unusedVariables false
set_option linter.unusedSimpArgs false
open Go.ChangeShapes Go.WideShapes Go.ChangeAt Go.RowKit
theorem border_even (b p n c k : Nat) (x q : Int) (hk : k < n) (hq : q = 2 * (k : Int)) (hq2 : q ≤ 9223372036854775807) (w : World) (h1 : w.cell? ⟨b, p + k * 2, none⟩ = some (.int .i64 x)) :
    Calls Try.prog 88 #[.slice (some ⟨b, p, none⟩) n c, .int .i64 q] w fun e w' => e = .returned (.int .i64 x) ∧ w = w' := by
  have e0 : 0 ≤ q := by omega
  have e1 : (q % 2 == 0) = true := by simp; omega
  have e2 : q / 2 = (k : Int) := by omega
  have k0 : (0 : Int) ≤ (k : Int) := by omega
  have k1 : (k : Int) < (n : Int) := by omega
  clear hq
  go_enter Try.func88, Try.ntmps88
  go_wp2
  go_returns
  exact ⟨rfl, rfl⟩
theorem border_odd (b p n c k : Nat) (y q : Int) (hk : k < n) (hq : q = 2 * (k : Int) + 1) (hq2 : q ≤ 9223372036854775807) (hy : -9223372036854775808 ≤ y) (hy2 : y < 9223372036854775807) (w : World) (h1 : w.cell? ⟨b, p + k * 2 + 1, none⟩ = some (.int .i64 y)) :
    Calls Try.prog 88 #[.slice (some ⟨b, p, none⟩) n c, .int .i64 q] w fun e w' => e = .returned (.int .i64 (y + 1)) ∧ w = w' := by
  have e0 : 0 ≤ q := by omega
  have e1 : (q % 2 == 0) = false := by simp; omega
  have e2 : q / 2 = (k : Int) := by omega
  have k0 : (0 : Int) ≤ (k : Int) := by omega
  have k1 : (k : Int) < (n : Int) := by omega
  clear hq
  go_enter Try.func88, Try.ntmps88
  go_wp2
  go_returns
  exact ⟨rfl, rfl⟩
/-- A border of a right set. -/
theorem border_any (ao : Option Addr) (n c m : Nat) (l : List Sp) (hg : Good l) (hm : m < 2 * n) (hn : n ≤ 1099511627776) (w : World) (hw : SpAt w ao n c l) :
    Calls Try.prog 88 #[.slice ao n c, .int .i64 m] w fun e w' => e = .returned (.int .i64 (bd l m)) ∧ w = w' := by
  obtain ⟨b, p, rfl, hc⟩ := hw.here (by omega)
  have hk : m / 2 < l.length := by rw [hw.len]; omega
  have hgd : l.getD (m / 2) (0, 0) = l[m / 2] := by rw [List.getD_eq_getElem?_getD, List.getElem?_eq_getElem hk]; rfl
  have g := good_at hg (m / 2) hk
  unfold bd
  rw [hgd]
  by_cases q : m % 2 = 0
  · rw [if_pos q]
    exact border_even b p n c (m / 2) _ m (by omega) (by omega) (by omega) w (hc _ hk).1
  · rw [if_neg q]
    exact border_odd b p n c (m / 2) _ m (by omega) (by omega) (by omega) (by omega) (by omega) w (hc _ hk).2
section
attribute [local go_sem] Oper.semAt_some
/-- What lay below, and two boxes, lie as they lay. -/
structure Kx (n₀ x y : Nat) (W W' : World) : Prop where
  below : Below n₀ W W'
  x_ : W'.heap[x]? = W.heap[x]?
  y_ : W'.heap[y]? = W.heap[y]?
theorem Kx.refl (n₀ x y : Nat) (W : World) : Kx n₀ x y W W := ⟨Below.refl _ _, rfl, rfl⟩
theorem Kx.trans {n₀ x y : Nat} {A B C : World} (h : Kx n₀ x y A B) (k : Kx n₀ x y B C) : Kx n₀ x y A C := ⟨h.below.trans k.below, k.x_.trans h.x_, k.y_.trans h.y_⟩
theorem Kx.drewN {n₀ x y : Nat} {A B : World} (h : Kx n₀ x y A B) (k : Nat) : Kx n₀ x y A (B.drewN k) := ⟨below_drewN h.below k, h.x_, h.y_⟩
/-- An event whose tick fits. -/
abbrev EvB := { e : Ev // -1099511627777 ≤ e.1 ∧ e.1 ≤ 1099511627777 }
def encs (x : EvB) : Array Value := #[.int .i64 x.1.1, .agg #[.bool x.1.2.1, .bool x.1.2.2]]
def vals (E : List EvB) : List Ev := E.map (·.1)
theorem borders_any (ao bo : Option Addr) (n c m d : Nat) (w : World) : Calls Try.prog 75 #[.slice ao n c, .slice bo m d] w fun e w' => e = .returned (.func (.func 87) #[] #[.pointer (some ⟨w.heap.size, 0, none⟩), .pointer (some ⟨w.heap.size + 1, 0, none⟩)]) ∧ w' = (w.alloc (.cells #[.slice ao n c] 34)).alloc (.cells #[.slice bo m d] 34) := by
  go_enter Try.func75, Try.ntmps75
  go_wp2
  go_returns
  exact ⟨rfl, rfl⟩
/-- One event more, at a border of one of the two or of both. -/
theorem run_step {a b : List Sp} (ga : Good a) (gb : Good b) {E : List Ev} {T x : Int} (h : Run a b E T)
    (hx : T < x) (hx2 : x ≤ 1099511627777) (ha : cnt a T < 2 * a.length → x ≤ bd a (cnt a T)) (hb : cnt b T < 2 * b.length → x ≤ bd b (cnt b T)) :
    Run a b (E ++ [(x, odd (cnt a x), odd (cnt b x))]) x := by
  refine .more h hx hx2 (fun t h1 h2 => ⟨?_, ?_⟩)
  · by_cases q : cnt a T < 2 * a.length
    · exact (bd_next ga T q).2.1 t h1 (by have := ha q; omega)
    · have := cnt_le a T
      rw [cnt_all (by omega) h1]; omega
  · by_cases q : cnt b T < 2 * b.length
    · exact (bd_next gb T q).2.1 t h1 (by have := hb q; omega)
    · have := cnt_le b T
      rw [cnt_all (by omega) h1]; omega
theorem cnt_hit {a : List Sp} (ga : Good a) {T : Int} (q : cnt a T < 2 * a.length) {x : Int} (e : x = bd a (cnt a T)) : cnt a x = cnt a T + 1 := by rw [e]; exact (bd_next ga T q).2.2.1
theorem cnt_miss {a : List Sp} (ga : Good a) {T x : Int} (hx : T ≤ x) (e : cnt a T < 2 * a.length → x < bd a (cnt a T)) : cnt a x = cnt a T := by
  by_cases q : cnt a T < 2 * a.length
  · exact (bd_next ga T q).2.1 x hx (e q)
  · have := cnt_le a T
    rw [cnt_all (by omega) hx]; omega
theorem odd_int (n : Nat) : ((n : Int) % 2 == 1) = odd n := by
  unfold odd
  by_cases q : n % 2 = 1
  · have : (n : Int) % 2 = 1 := by omega
    rw [this, q]; rfl
  · have : (n : Int) % 2 = 0 := by omega
    have q2 : n % 2 = 0 := by omega
    rw [this, q2]; rfl
set_option maxRecDepth 100000 in
set_option maxHeartbeats 4000000 in
theorem borders_in (n : Nat) (hn : 1 ≤ n) (l x y n₀ : Nat) (ao bo : Option Addr) (m1 c1 m2 c2 : Nat) (a b : List Sp) (ga : Good a) (gb : Good b) (h1 : m1 ≤ 1000000) (h2 : m2 ≤ 1000000) (J Jx : List EvB → World → Prop) (W : World)
    (hY : ∀ pre z W, J pre W → pre.length < 2 * m1 + 2 * m2 → YieldAt Fence.wide (n - 1) Try.prog l (encs z) W fun e W' =>
      (e = .returned (.bool true) ∧ J (pre ++ [z]) W' ∧ Kx n₀ x y W W') ∨ (e = .returned (.bool false) ∧ Jx (pre ++ [z]) W'))
    (hJ : AbidesFrom W.heap.size J)
    (hk : ∀ W', Kx n₀ x y W W' → W'.cell? ⟨x, 0, none⟩ = some (.slice ao m1 c1) ∧ W'.cell? ⟨y, 0, none⟩ = some (.slice bo m2 c2) ∧ SpAt W' ao m1 c1 a ∧ SpAt W' bo m2 c2 b) (h0 : J [] W) :
    CallsIn Fence.wide n Try.prog 87 #[.func (.yield l) #[] #[], .pointer (some ⟨x, 0, none⟩), .pointer (some ⟨y, 0, none⟩)] W fun e W' => (∃ v, e = .returned v) ∧
      ((∃ E, (∃ T, Run a b (vals E) T ∧ cnt a T = 2 * a.length ∧ cnt b T = 2 * b.length) ∧ J E W') ∨ (∃ pre, True ∧ Jx pre W')) := by
  have LA := Lib.hid (hk W (Kx.refl _ _ _ _)).2.2.1.len
  have LB := Lib.hid (hk W (Kx.refl _ _ _ _)).2.2.2.len
  have HK := Lib.hid hk
  have HY := Lib.hid hY
  have HJ := Lib.hid hJ
  have GA := Lib.hid ga
  have GB := Lib.hid gb
  have BA := Lib.hid (fun (m : Nat) hm (W' : World) (hb : Kx n₀ x y W W') => border_any ao m1 c1 m a ga hm (by omega) W' (hk W' hb).2.2.1)
  have BB := Lib.hid (fun (m : Nat) hm (W' : World) (hb : Kx n₀ x y W W') => border_any bo m2 c2 m b gb hm (by omega) W' (hk W' hb).2.2.2)
  clear hk hY hJ ga gb
  refine callsIn_of_wp Try.func87 rfl trivial ?_ rfl
  simp only [Try.ntmps87, List.size_toArray, List.length_cons, List.length_nil, Nat.reduceAdd, Nat.reduceSub, Array.replicate_succ, Array.replicate_zero, List.push_toArray, List.append_toArray, List.nil_append, List.cons_append]
  gi_wp2
  gi_loopw [4, 5] (fun i j wr => ∃ (pre : List EvB) (T : Int) (I K : Nat), i = .int .i64 I ∧ j = .int .i64 K ∧ Hid (cnt a T = I ∧ cnt b T = K) ∧ Hid (Run a b (vals pre) T) ∧ Hid (pre.length ≤ I + K) ∧ Hid (J pre wr) ∧ Hid (Kx n₀ x y W wr)) (fun i j _ => (2 * m1 + 2 * m2) - ((intOf i).toNat + (intOf j).toNat))
  case atStart => exact ⟨[], -1099511627777, 0, 0, rfl, rfl, Lib.hid ⟨cnt_low GA.out (by omega), cnt_low GB.out (by omega)⟩, Lib.hid .start, Lib.hid (Nat.zero_le _), Lib.hid h0, Lib.hid (Kx.refl _ _ _ _)⟩
  case round =>
    obtain ⟨pre, T, I, K, rfl, rfl, HC, HR, HL, HJ0, HB⟩ := hrel
    have hI : I ≤ 2 * m1 := by have := cnt_le a T; have := HC.out.1; have := LA.out; omega
    have hK : K ≤ 2 * m2 := by have := cnt_le b T; have := HC.out.2; have := LB.out; omega
    have d1 := (HK.out _ HB.out).1
    have d2 := (HK.out _ HB.out).2.1
    obtain ⟨A2, hA2⟩ : ∃ z : Nat, 2 * m1 = z := ⟨_, rfl⟩
    obtain ⟨B2, hB2⟩ : ∃ z : Nat, 2 * m2 = z := ⟨_, rfl⟩
    have e1 : IntKind.i64.wrap (2 * (m1 : Int)) = (A2 : Int) := by rw [IntWalk.i64_in _ (by omega)]; omega
    have e2 : IntKind.i64.wrap (2 * (m2 : Int)) = (B2 : Int) := by rw [IntWalk.i64_in _ (by omega)]; omega
    have e3 : 2 * (m1 : Int) = (A2 : Int) := by omega
    have e4 : 2 * (m2 : Int) = (B2 : Int) := by omega
    have HA2 := Lib.hid hA2
    have HB2 := Lib.hid hB2
    have u1 : A2 ≤ 2000000 := by omega
    have u2 : B2 ≤ 2000000 := by omega
    have i0 : (0 : Int) ≤ (I : Int) := by omega
    have k0 : (0 : Int) ≤ (K : Int) := by omega
    rw [hA2] at hI
    rw [hB2] at hK
    clear hA2 hB2
    by_cases hi : I < A2
    · have ti : (I : Int) < (A2 : Int) := by omega
      have ti2 : ((I : Int) == (A2 : Int)) = false := by simp; omega
      have hIa : cnt a T < 2 * a.length := by have := HC.out.1; have := LA.out; have := HA2.out; omega
      have NA := Lib.hid (bd_next GA.out T hIa)
      have PA := Lib.hid (BA.out I (by have := HA2.out; omega))
      by_cases hk2 : K < B2
      · have tk : (K : Int) < (B2 : Int) := by omega
        have tk2 : ((K : Int) == (B2 : Int)) = false := by simp; omega
        have hKb : cnt b T < 2 * b.length := by have := HC.out.2; have := LB.out; have := HB2.out; omega
        have NB := Lib.hid (bd_next GB.out T hKb)
        have PB := Lib.hid (BB.out K (by have := HB2.out; omega))
        have HHa := Lib.hid hIa
        have HHb := Lib.hid hKb
        clear hIa hKb
        rw [HC.out.1] at NA
        rw [HC.out.2] at NB
        obtain ⟨u, hu⟩ : ∃ z, bd a I = z := ⟨_, rfl⟩
        obtain ⟨v, hv⟩ : ∃ z, bd b K = z := ⟨_, rfl⟩
        rw [hu] at NA PA
        rw [hv] at NB PB
        have HU := Lib.hid hu
        have HV := Lib.hid hv
        have PA2 : Hid (∀ k, Calls Try.prog 88 #[.slice ao m1 c1, .int .i64 I] (wr.drewN k) fun e w' => e = .returned (.int .i64 u) ∧ w' = wr.drewN k) := Lib.hid (fun k => (PA.out _ (Kx.drewN HB.out k)).mono fun e w' h => ⟨h.1, h.2.symm⟩)
        have PB2 : Hid (∀ k, Calls Try.prog 88 #[.slice bo m2 c2, .int .i64 K] (wr.drewN k) fun e w' => e = .returned (.int .i64 v) ∧ w' = wr.drewN k) := Lib.hid (fun k => (PB.out _ (Kx.drewN HB.out k)).mono fun e w' h => ⟨h.1, h.2.symm⟩)
        clear hu hv
        rcases Int.lt_trichotomy u v with huv | huv | huv
        · have t5 : decide (u ≤ v) = true := decide_eq_true (by omega)
          have t6 : decide (v ≤ u) = false := decide_eq_false (by omega)
          have HT := Lib.hid (show T < u from NA.out.1)
          have hat : -1099511627777 ≤ u ∧ u ≤ 1099511627777 := ⟨by have := NA.out.2.2.2.1; omega, NA.out.2.2.2.2⟩
          have HC2 : Hid (cnt a u = I + 1 ∧ cnt b u = K) := Lib.hid ⟨by have := cnt_hit GA.out HHa.out (by rw [HC.out.1, HU.out]); rw [this, HC.out.1], by have := cnt_miss GB.out (Int.le_of_lt HT.out) (fun q => by rw [HC.out.2, HV.out]; exact huv); rw [this, HC.out.2]⟩
          have HR2 : Hid (Run a b (vals (pre ++ [⟨(u, odd (I + 1), odd (K)), hat⟩])) u) := Lib.hid (by
            have := run_step GA.out GB.out HR.out HT.out hat.2 (fun _ => by rw [HC.out.1, HU.out]; omega) (fun _ => by rw [HC.out.2, HV.out]; omega)
            rw [HC2.out.1, HC2.out.2] at this
            simpa [vals] using this)
          have t7 : (((I : Int) + 1) % 2 == 1) = odd (I + 1) := by have := odd_int (I + 1); simpa using this
          have t8 : ((K : Int) % 2 == 1) = odd K := odd_int K
          gi_wp2
          refine wpIn_wide.2 ?_
          go_quiet ((first | (go_at_call 88; with_reducible exact Calls.quiet_of_same (PA2.out _)) | (go_at_call 88; with_reducible exact Calls.quiet_of_same (PB2.out _))))
          obtain ⟨w2, hw2⟩ : ∃ z, wr.drewN nq = z := ⟨_, rfl⟩
          have HB2' : Hid (Kx n₀ x y W w2) := Lib.hid (by rw [← hw2]; exact Kx.drewN HB.out _)
          have HJ2 : Hid (J pre w2) := Lib.hid (by rw [← hw2]; exact HJ.out _ _ _ none HJ0.out ⟨rfl, rfl, rfl, Nat.le_refl _, fun _ _ _ => rfl⟩ (fun r e => by cases e))
          rw [hw2]
          have dw1 := (HK.out _ HB2'.out).1
          have dw2 := (HK.out _ HB2'.out).2.1
          clear hw2 d1 d2
          have PA3 : Hid (∀ k, Calls Try.prog 88 #[.slice ao m1 c1, .int .i64 I] (w2.drewN k) fun e w' => e = .returned (.int .i64 u) ∧ w' = w2.drewN k) := Lib.hid (fun k => (PA.out _ (Kx.drewN HB2'.out k)).mono fun e w' h => ⟨h.1, h.2.symm⟩)
          have PB3 : Hid (∀ k, Calls Try.prog 88 #[.slice bo m2 c2, .int .i64 K] (w2.drewN k) fun e w' => e = .returned (.int .i64 v) ∧ w' = w2.drewN k) := Lib.hid (fun k => (PB.out _ (Kx.drewN HB2'.out k)).mono fun e w' h => ⟨h.1, h.2.symm⟩)
          gi_wp2
          refine wpIn_wide.2 ?_
          go_quiet ((first | (go_at_call 88; with_reducible exact Calls.quiet_of_same (PA3.out _)) | (go_at_call 88; with_reducible exact Calls.quiet_of_same (PB3.out _))))
          obtain ⟨z, hz⟩ : ∃ z, w2.drewN nq = z := ⟨_, rfl⟩
          have HBz : Hid (Kx n₀ x y W z) := Lib.hid (by rw [← hz]; exact Kx.drewN HB2'.out _)
          have HJz : Hid (J pre z) := Lib.hid (by rw [← hz]; exact HJ.out _ _ _ none HJ2.out ⟨rfl, rfl, rfl, Nat.le_refl _, fun _ _ _ => rfl⟩ (fun r e => by cases e))
          rw [hz]
          have dz1 := (HK.out _ HBz.out).1
          have dz2 := (HK.out _ HBz.out).2.1
          clear hz dw1 dw2
          obtain ⟨fn, tmps, assign, body, hy, hR⟩ := HY.out pre ⟨(u, odd (I + 1), odd (K)), hat⟩ z HJz.out (by have := HL.out; have := HA2.out; have := HB2.out; omega)
          have HRr := Lib.hid hR
          clear hR
          dsimp only [encs] at hy
          clear huv
          gi_wp2_with (first | (refine ⟨trivial, ?_⟩; gi_at_call 88; with_reducible refine (callsIn_wide.2 (PA.out _ HBz.out)).mono ?_; rintro e z1 ⟨rfl, rfl⟩))
          refine HRr.out.mono ?_
          rintro e W3 (⟨rfl, hJ3, hk3⟩ | ⟨rfl, hJx3⟩)
          · have HJ3 := Lib.hid hJ3
            have HB3 := Lib.hid (HBz.out.trans hk3)
            have HL3 : Hid ((pre ++ [(⟨(u, odd (I + 1), odd (K)), hat⟩ : EvB)]).length ≤ (I + 1) + (K)) := Lib.hid (by have := HL.out; simp; omega)
            clear hy hJ3 hk3 HRr dz1 dz2
            gi_wp2
            go_roundw
            case rel => exact ⟨_, u, I + 1, K, by go_num, by go_num, HC2, HR2, HL3, HJ3, HB3⟩
            case measure => simp [intOf]; have := HA2.out; have := HB2.out; omega
          · have HJx3 := Lib.hid hJx3
            clear hy hJx3 HRr dz1 dz2
            gi_wp2
            refine bodyPost_ret (results_none rfl _ _ _) rfl ?_
            exact ⟨⟨_, rfl⟩, .inr ⟨_, trivial, HJx3.out⟩⟩
        · subst huv
          have t5 : decide (u ≤ u) = true := decide_eq_true (by omega)
          have t6 : decide (u ≤ u) = true := decide_eq_true (by omega)
          have HT := Lib.hid (show T < u from NA.out.1)
          have hat : -1099511627777 ≤ u ∧ u ≤ 1099511627777 := ⟨by have := NA.out.2.2.2.1; omega, NA.out.2.2.2.2⟩
          have HC2 : Hid (cnt a u = I + 1 ∧ cnt b u = K + 1) := Lib.hid ⟨by have := cnt_hit GA.out HHa.out (by rw [HC.out.1, HU.out]); rw [this, HC.out.1], by have := cnt_hit GB.out HHb.out (by rw [HC.out.2, HV.out]); rw [this, HC.out.2]⟩
          have HR2 : Hid (Run a b (vals (pre ++ [⟨(u, odd (I + 1), odd (K + 1)), hat⟩])) u) := Lib.hid (by
            have := run_step GA.out GB.out HR.out HT.out hat.2 (fun _ => by rw [HC.out.1, HU.out]; omega) (fun _ => by rw [HC.out.2, HV.out]; omega)
            rw [HC2.out.1, HC2.out.2] at this
            simpa [vals] using this)
          have t7 : (((I : Int) + 1) % 2 == 1) = odd (I + 1) := by have := odd_int (I + 1); simpa using this
          have t8 : (((K : Int) + 1) % 2 == 1) = odd (K + 1) := by have := odd_int (K + 1); simpa using this
          gi_wp2
          refine wpIn_wide.2 ?_
          go_quiet ((first | (go_at_call 88; with_reducible exact Calls.quiet_of_same (PA2.out _)) | (go_at_call 88; with_reducible exact Calls.quiet_of_same (PB2.out _))))
          obtain ⟨w2, hw2⟩ : ∃ z, wr.drewN nq = z := ⟨_, rfl⟩
          have HB2' : Hid (Kx n₀ x y W w2) := Lib.hid (by rw [← hw2]; exact Kx.drewN HB.out _)
          have HJ2 : Hid (J pre w2) := Lib.hid (by rw [← hw2]; exact HJ.out _ _ _ none HJ0.out ⟨rfl, rfl, rfl, Nat.le_refl _, fun _ _ _ => rfl⟩ (fun r e => by cases e))
          rw [hw2]
          have dw1 := (HK.out _ HB2'.out).1
          have dw2 := (HK.out _ HB2'.out).2.1
          clear hw2 d1 d2
          have PA3 : Hid (∀ k, Calls Try.prog 88 #[.slice ao m1 c1, .int .i64 I] (w2.drewN k) fun e w' => e = .returned (.int .i64 u) ∧ w' = w2.drewN k) := Lib.hid (fun k => (PA.out _ (Kx.drewN HB2'.out k)).mono fun e w' h => ⟨h.1, h.2.symm⟩)
          have PB3 : Hid (∀ k, Calls Try.prog 88 #[.slice bo m2 c2, .int .i64 K] (w2.drewN k) fun e w' => e = .returned (.int .i64 u) ∧ w' = w2.drewN k) := Lib.hid (fun k => (PB.out _ (Kx.drewN HB2'.out k)).mono fun e w' h => ⟨h.1, h.2.symm⟩)
          gi_wp2
          refine wpIn_wide.2 ?_
          go_quiet ((first | (go_at_call 88; with_reducible exact Calls.quiet_of_same (PA3.out _)) | (go_at_call 88; with_reducible exact Calls.quiet_of_same (PB3.out _))))
          obtain ⟨z, hz⟩ : ∃ z, w2.drewN nq = z := ⟨_, rfl⟩
          have HBz : Hid (Kx n₀ x y W z) := Lib.hid (by rw [← hz]; exact Kx.drewN HB2'.out _)
          have HJz : Hid (J pre z) := Lib.hid (by rw [← hz]; exact HJ.out _ _ _ none HJ2.out ⟨rfl, rfl, rfl, Nat.le_refl _, fun _ _ _ => rfl⟩ (fun r e => by cases e))
          rw [hz]
          have dz1 := (HK.out _ HBz.out).1
          have dz2 := (HK.out _ HBz.out).2.1
          clear hz dw1 dw2
          obtain ⟨fn, tmps, assign, body, hy, hR⟩ := HY.out pre ⟨(u, odd (I + 1), odd (K + 1)), hat⟩ z HJz.out (by have := HL.out; have := HA2.out; have := HB2.out; omega)
          have HRr := Lib.hid hR
          clear hR
          dsimp only [encs] at hy
          gi_wp2_with (first | (refine ⟨trivial, ?_⟩; gi_at_call 88; with_reducible refine (callsIn_wide.2 (PA.out _ HBz.out)).mono ?_; rintro e z1 ⟨rfl, rfl⟩) | (refine ⟨trivial, ?_⟩; gi_at_call 88; with_reducible refine (callsIn_wide.2 (PB.out _ HBz.out)).mono ?_; rintro e z1 ⟨rfl, rfl⟩))
          refine HRr.out.mono ?_
          rintro e W3 (⟨rfl, hJ3, hk3⟩ | ⟨rfl, hJx3⟩)
          · have HJ3 := Lib.hid hJ3
            have HB3 := Lib.hid (HBz.out.trans hk3)
            have HL3 : Hid ((pre ++ [(⟨(u, odd (I + 1), odd (K + 1)), hat⟩ : EvB)]).length ≤ (I + 1) + (K + 1)) := Lib.hid (by have := HL.out; simp; omega)
            clear hy hJ3 hk3 HRr dz1 dz2
            gi_wp2
            go_roundw
            case rel => exact ⟨_, u, I + 1, K + 1, by go_num, by go_num, HC2, HR2, HL3, HJ3, HB3⟩
            case measure => simp [intOf]; have := HA2.out; have := HB2.out; omega
          · have HJx3 := Lib.hid hJx3
            clear hy hJx3 HRr dz1 dz2
            gi_wp2
            refine bodyPost_ret (results_none rfl _ _ _) rfl ?_
            exact ⟨⟨_, rfl⟩, .inr ⟨_, trivial, HJx3.out⟩⟩
        · have t5 : decide (u ≤ v) = false := decide_eq_false (by omega)
          have t6 : decide (v ≤ u) = true := decide_eq_true (by omega)
          have HT := Lib.hid (show T < v from NB.out.1)
          have hat : -1099511627777 ≤ v ∧ v ≤ 1099511627777 := ⟨by have := NB.out.2.2.2.1; omega, NB.out.2.2.2.2⟩
          have HC2 : Hid (cnt a v = I ∧ cnt b v = K + 1) := Lib.hid ⟨by have := cnt_miss GA.out (Int.le_of_lt HT.out) (fun q => by rw [HC.out.1, HU.out]; exact huv); rw [this, HC.out.1], by have := cnt_hit GB.out HHb.out (by rw [HC.out.2, HV.out]); rw [this, HC.out.2]⟩
          have HR2 : Hid (Run a b (vals (pre ++ [⟨(v, odd (I), odd (K + 1)), hat⟩])) v) := Lib.hid (by
            have := run_step GA.out GB.out HR.out HT.out hat.2 (fun _ => by rw [HC.out.1, HU.out]; omega) (fun _ => by rw [HC.out.2, HV.out]; omega)
            rw [HC2.out.1, HC2.out.2] at this
            simpa [vals] using this)
          have t7 : ((I : Int) % 2 == 1) = odd I := odd_int I
          have t8 : (((K : Int) + 1) % 2 == 1) = odd (K + 1) := by have := odd_int (K + 1); simpa using this
          gi_wp2
          refine wpIn_wide.2 ?_
          go_quiet ((first | (go_at_call 88; with_reducible exact Calls.quiet_of_same (PA2.out _)) | (go_at_call 88; with_reducible exact Calls.quiet_of_same (PB2.out _))))
          obtain ⟨w2, hw2⟩ : ∃ z, wr.drewN nq = z := ⟨_, rfl⟩
          have HB2' : Hid (Kx n₀ x y W w2) := Lib.hid (by rw [← hw2]; exact Kx.drewN HB.out _)
          have HJ2 : Hid (J pre w2) := Lib.hid (by rw [← hw2]; exact HJ.out _ _ _ none HJ0.out ⟨rfl, rfl, rfl, Nat.le_refl _, fun _ _ _ => rfl⟩ (fun r e => by cases e))
          rw [hw2]
          have dw1 := (HK.out _ HB2'.out).1
          have dw2 := (HK.out _ HB2'.out).2.1
          clear hw2 d1 d2
          have PA3 : Hid (∀ k, Calls Try.prog 88 #[.slice ao m1 c1, .int .i64 I] (w2.drewN k) fun e w' => e = .returned (.int .i64 u) ∧ w' = w2.drewN k) := Lib.hid (fun k => (PA.out _ (Kx.drewN HB2'.out k)).mono fun e w' h => ⟨h.1, h.2.symm⟩)
          have PB3 : Hid (∀ k, Calls Try.prog 88 #[.slice bo m2 c2, .int .i64 K] (w2.drewN k) fun e w' => e = .returned (.int .i64 v) ∧ w' = w2.drewN k) := Lib.hid (fun k => (PB.out _ (Kx.drewN HB2'.out k)).mono fun e w' h => ⟨h.1, h.2.symm⟩)
          gi_wp2
          refine wpIn_wide.2 ?_
          go_quiet ((first | (go_at_call 88; with_reducible exact Calls.quiet_of_same (PA3.out _)) | (go_at_call 88; with_reducible exact Calls.quiet_of_same (PB3.out _))))
          obtain ⟨z, hz⟩ : ∃ z, w2.drewN nq = z := ⟨_, rfl⟩
          have HBz : Hid (Kx n₀ x y W z) := Lib.hid (by rw [← hz]; exact Kx.drewN HB2'.out _)
          have HJz : Hid (J pre z) := Lib.hid (by rw [← hz]; exact HJ.out _ _ _ none HJ2.out ⟨rfl, rfl, rfl, Nat.le_refl _, fun _ _ _ => rfl⟩ (fun r e => by cases e))
          rw [hz]
          have dz1 := (HK.out _ HBz.out).1
          have dz2 := (HK.out _ HBz.out).2.1
          clear hz dw1 dw2
          obtain ⟨fn, tmps, assign, body, hy, hR⟩ := HY.out pre ⟨(v, odd (I), odd (K + 1)), hat⟩ z HJz.out (by have := HL.out; have := HA2.out; have := HB2.out; omega)
          have HRr := Lib.hid hR
          clear hR
          dsimp only [encs] at hy
          clear huv
          gi_wp2_with (first | (refine ⟨trivial, ?_⟩; gi_at_call 88; with_reducible refine (callsIn_wide.2 (PB.out _ HBz.out)).mono ?_; rintro e z1 ⟨rfl, rfl⟩))
          refine HRr.out.mono ?_
          rintro e W3 (⟨rfl, hJ3, hk3⟩ | ⟨rfl, hJx3⟩)
          · have HJ3 := Lib.hid hJ3
            have HB3 := Lib.hid (HBz.out.trans hk3)
            have HL3 : Hid ((pre ++ [(⟨(v, odd (I), odd (K + 1)), hat⟩ : EvB)]).length ≤ (I) + (K + 1)) := Lib.hid (by have := HL.out; simp; omega)
            clear hy hJ3 hk3 HRr dz1 dz2
            gi_wp2
            go_roundw
            case rel => exact ⟨_, v, I, K + 1, by go_num, by go_num, HC2, HR2, HL3, HJ3, HB3⟩
            case measure => simp [intOf]; have := HA2.out; have := HB2.out; omega
          · have HJx3 := Lib.hid hJx3
            clear hy hJx3 HRr dz1 dz2
            gi_wp2
            refine bodyPost_ret (results_none rfl _ _ _) rfl ?_
            exact ⟨⟨_, rfl⟩, .inr ⟨_, trivial, HJx3.out⟩⟩
      · have tk2 : ((K : Int) == (B2 : Int)) = true := by simp; omega
        have tk : ¬ (K : Int) < (B2 : Int) := by omega
        have HHa := Lib.hid hIa
        clear hIa
        rw [HC.out.1] at NA
        obtain ⟨u, hu⟩ : ∃ z, bd a I = z := ⟨_, rfl⟩
        rw [hu] at NA PA
        have HU := Lib.hid hu
        clear hu
        have HT := Lib.hid (show T < u from NA.out.1)
        have hat : -1099511627777 ≤ u ∧ u ≤ 1099511627777 := ⟨by have := NA.out.2.2.2.1; omega, NA.out.2.2.2.2⟩
        have HC2 : Hid (cnt a u = I + 1 ∧ cnt b u = K) := Lib.hid ⟨by have := cnt_hit GA.out HHa.out (by rw [HC.out.1, HU.out]); rw [this, HC.out.1], by have := cnt_miss GB.out (Int.le_of_lt HT.out) (fun q => by have := HC.out.2; have := LB.out; have := HB2.out; omega); rw [this, HC.out.2]⟩
        have HR2 : Hid (Run a b (vals (pre ++ [⟨(u, odd (I + 1), odd (K)), hat⟩])) u) := Lib.hid (by
          have := run_step GA.out GB.out HR.out HT.out hat.2 (fun _ => by rw [HC.out.1, HU.out]; omega) (fun _ => by have := HC.out.2; have := LB.out; have := HB2.out; omega)
          rw [HC2.out.1, HC2.out.2] at this
          simpa [vals] using this)
        have t7 : (((I : Int) + 1) % 2 == 1) = odd (I + 1) := by have := odd_int (I + 1); simpa using this
        have t8 : ((K : Int) % 2 == 1) = odd K := odd_int K
        gi_wp2
        refine wpIn_wide.2 ?_
        go_quiet (fail)
        obtain ⟨w2, hw2⟩ : ∃ z, wr.drewN nq = z := ⟨_, rfl⟩
        have HB2' : Hid (Kx n₀ x y W w2) := Lib.hid (by rw [← hw2]; exact Kx.drewN HB.out _)
        have HJ2 : Hid (J pre w2) := Lib.hid (by rw [← hw2]; exact HJ.out _ _ _ none HJ0.out ⟨rfl, rfl, rfl, Nat.le_refl _, fun _ _ _ => rfl⟩ (fun r e => by cases e))
        rw [hw2]
        have dw1 := (HK.out _ HB2'.out).1
        have dw2 := (HK.out _ HB2'.out).2.1
        clear hw2 d1 d2
        have PA3 : Hid (∀ k, Calls Try.prog 88 #[.slice ao m1 c1, .int .i64 I] (w2.drewN k) fun e w' => e = .returned (.int .i64 u) ∧ w' = w2.drewN k) := Lib.hid (fun k => (PA.out _ (Kx.drewN HB2'.out k)).mono fun e w' h => ⟨h.1, h.2.symm⟩)
        gi_wp2
        refine wpIn_wide.2 ?_
        go_quiet (fail)
        obtain ⟨z, hz⟩ : ∃ z, w2.drewN nq = z := ⟨_, rfl⟩
        have HBz : Hid (Kx n₀ x y W z) := Lib.hid (by rw [← hz]; exact Kx.drewN HB2'.out _)
        have HJz : Hid (J pre z) := Lib.hid (by rw [← hz]; exact HJ.out _ _ _ none HJ2.out ⟨rfl, rfl, rfl, Nat.le_refl _, fun _ _ _ => rfl⟩ (fun r e => by cases e))
        rw [hz]
        have dz1 := (HK.out _ HBz.out).1
        have dz2 := (HK.out _ HBz.out).2.1
        clear hz dw1 dw2
        obtain ⟨fn, tmps, assign, body, hy, hR⟩ := HY.out pre ⟨(u, odd (I + 1), odd (K)), hat⟩ z HJz.out (by have := HL.out; have := HA2.out; have := HB2.out; omega)
        have HRr := Lib.hid hR
        clear hR
        dsimp only [encs] at hy
        gi_wp2_with (first | (refine ⟨trivial, ?_⟩; gi_at_call 88; with_reducible refine (callsIn_wide.2 (PA.out _ HBz.out)).mono ?_; rintro e z1 ⟨rfl, rfl⟩))
        refine HRr.out.mono ?_
        rintro e W3 (⟨rfl, hJ3, hk3⟩ | ⟨rfl, hJx3⟩)
        · have HJ3 := Lib.hid hJ3
          have HB3 := Lib.hid (HBz.out.trans hk3)
          have HL3 : Hid ((pre ++ [(⟨(u, odd (I + 1), odd (K)), hat⟩ : EvB)]).length ≤ (I + 1) + (K)) := Lib.hid (by have := HL.out; simp; omega)
          clear hy hJ3 hk3 HRr dz1 dz2
          gi_wp2
          go_roundw
          case rel => exact ⟨_, u, I + 1, K, by go_num, by go_num, HC2, HR2, HL3, HJ3, HB3⟩
          case measure => simp [intOf]; have := HA2.out; have := HB2.out; omega
        · have HJx3 := Lib.hid hJx3
          clear hy hJx3 HRr dz1 dz2
          gi_wp2
          refine bodyPost_ret (results_none rfl _ _ _) rfl ?_
          exact ⟨⟨_, rfl⟩, .inr ⟨_, trivial, HJx3.out⟩⟩
    · by_cases hk2 : K < B2
      · have ti2 : ((I : Int) == (A2 : Int)) = true := by simp; omega
        have ti : ¬ (I : Int) < (A2 : Int) := by omega
        have tk : (K : Int) < (B2 : Int) := by omega
        have tk2 : ((K : Int) == (B2 : Int)) = false := by simp; omega
        have hKb : cnt b T < 2 * b.length := by have := HC.out.2; have := LB.out; have := HB2.out; omega
        have NB := Lib.hid (bd_next GB.out T hKb)
        have PB := Lib.hid (BB.out K (by have := HB2.out; omega))
        have HHb := Lib.hid hKb
        clear hKb
        rw [HC.out.2] at NB
        obtain ⟨v, hv⟩ : ∃ z, bd b K = z := ⟨_, rfl⟩
        rw [hv] at NB PB
        have HV := Lib.hid hv
        clear hv
        have HT := Lib.hid (show T < v from NB.out.1)
        have hat : -1099511627777 ≤ v ∧ v ≤ 1099511627777 := ⟨by have := NB.out.2.2.2.1; omega, NB.out.2.2.2.2⟩
        have HC2 : Hid (cnt a v = I ∧ cnt b v = K + 1) := Lib.hid ⟨by have := cnt_miss GA.out (Int.le_of_lt HT.out) (fun q => by have := HC.out.1; have := LA.out; have := HA2.out; omega); rw [this, HC.out.1], by have := cnt_hit GB.out HHb.out (by rw [HC.out.2, HV.out]); rw [this, HC.out.2]⟩
        have HR2 : Hid (Run a b (vals (pre ++ [⟨(v, odd (I), odd (K + 1)), hat⟩])) v) := Lib.hid (by
          have := run_step GA.out GB.out HR.out HT.out hat.2 (fun _ => by have := HC.out.1; have := LA.out; have := HA2.out; omega) (fun _ => by rw [HC.out.2, HV.out]; omega)
          rw [HC2.out.1, HC2.out.2] at this
          simpa [vals] using this)
        have t7 : ((I : Int) % 2 == 1) = odd I := odd_int I
        have t8 : (((K : Int) + 1) % 2 == 1) = odd (K + 1) := by have := odd_int (K + 1); simpa using this
        gi_wp2
        refine wpIn_wide.2 ?_
        go_quiet (fail)
        obtain ⟨w2, hw2⟩ : ∃ z, wr.drewN nq = z := ⟨_, rfl⟩
        have HB2' : Hid (Kx n₀ x y W w2) := Lib.hid (by rw [← hw2]; exact Kx.drewN HB.out _)
        have HJ2 : Hid (J pre w2) := Lib.hid (by rw [← hw2]; exact HJ.out _ _ _ none HJ0.out ⟨rfl, rfl, rfl, Nat.le_refl _, fun _ _ _ => rfl⟩ (fun r e => by cases e))
        rw [hw2]
        have dw1 := (HK.out _ HB2'.out).1
        have dw2 := (HK.out _ HB2'.out).2.1
        clear hw2 d1 d2
        have PB3 : Hid (∀ k, Calls Try.prog 88 #[.slice bo m2 c2, .int .i64 K] (w2.drewN k) fun e w' => e = .returned (.int .i64 v) ∧ w' = w2.drewN k) := Lib.hid (fun k => (PB.out _ (Kx.drewN HB2'.out k)).mono fun e w' h => ⟨h.1, h.2.symm⟩)
        gi_wp2
        refine wpIn_wide.2 ?_
        go_quiet (fail)
        obtain ⟨z, hz⟩ : ∃ z, w2.drewN nq = z := ⟨_, rfl⟩
        have HBz : Hid (Kx n₀ x y W z) := Lib.hid (by rw [← hz]; exact Kx.drewN HB2'.out _)
        have HJz : Hid (J pre z) := Lib.hid (by rw [← hz]; exact HJ.out _ _ _ none HJ2.out ⟨rfl, rfl, rfl, Nat.le_refl _, fun _ _ _ => rfl⟩ (fun r e => by cases e))
        rw [hz]
        have dz1 := (HK.out _ HBz.out).1
        have dz2 := (HK.out _ HBz.out).2.1
        clear hz dw1 dw2
        obtain ⟨fn, tmps, assign, body, hy, hR⟩ := HY.out pre ⟨(v, odd (I), odd (K + 1)), hat⟩ z HJz.out (by have := HL.out; have := HA2.out; have := HB2.out; omega)
        have HRr := Lib.hid hR
        clear hR
        dsimp only [encs] at hy
        gi_wp2_with (first | (refine ⟨trivial, ?_⟩; gi_at_call 88; with_reducible refine (callsIn_wide.2 (PB.out _ HBz.out)).mono ?_; rintro e z1 ⟨rfl, rfl⟩))
        refine HRr.out.mono ?_
        rintro e W3 (⟨rfl, hJ3, hk3⟩ | ⟨rfl, hJx3⟩)
        · have HJ3 := Lib.hid hJ3
          have HB3 := Lib.hid (HBz.out.trans hk3)
          have HL3 : Hid ((pre ++ [(⟨(v, odd (I), odd (K + 1)), hat⟩ : EvB)]).length ≤ (I) + (K + 1)) := Lib.hid (by have := HL.out; simp; omega)
          clear hy hJ3 hk3 HRr dz1 dz2
          gi_wp2
          go_roundw
          case rel => exact ⟨_, v, I, K + 1, by go_num, by go_num, HC2, HR2, HL3, HJ3, HB3⟩
          case measure => simp [intOf]; have := HA2.out; have := HB2.out; omega
        · have HJx3 := Lib.hid hJx3
          clear hy hJx3 HRr dz1 dz2
          gi_wp2
          refine bodyPost_ret (results_none rfl _ _ _) rfl ?_
          exact ⟨⟨_, rfl⟩, .inr ⟨_, trivial, HJx3.out⟩⟩
      · have ti : ¬ (I : Int) < (A2 : Int) := by omega
        have tk : ¬ (K : Int) < (B2 : Int) := by omega
        have HE : Hid (cnt a T = 2 * a.length ∧ cnt b T = 2 * b.length) := Lib.hid ⟨by have := HC.out.1; have := LA.out; have := HA2.out; omega, by have := HC.out.2; have := LB.out; have := HB2.out; omega⟩
        gi_wp2
        go_end0
        exact ⟨⟨_, rfl⟩, .inl ⟨pre, ⟨T, HR.out, HE.out.1, HE.out.2⟩, HJ0.out⟩⟩
attribute [local go_sem] Oper.semAt_some
/-- The iterator that borders hands back. -/
theorem borders_stops (n : Nat) (hn : 1 ≤ n) (x y : Nat) (ao bo : Option Addr) (m1 c1 m2 c2 : Nat) (a b : List Sp) (ga : Good a) (gb : Good b) (h1 : m1 ≤ 1000000) (h2 : m2 ≤ 1000000) (w w1 : World) (hb : Below w.heap.size w w1)
    (hx : w1.cell? ⟨x, 0, none⟩ = some (.slice ao m1 c1)) (hy : w1.cell? ⟨y, 0, none⟩ = some (.slice bo m2 c2)) (ha : SpAt w ao m1 c1 a) (hb2 : SpAt w bo m2 c2 b) :
    SeqStopsK Fence.wide n Try.prog 87 #[.pointer (some ⟨x, 0, none⟩), .pointer (some ⟨y, 0, none⟩)] encs (Kx w.heap.size x y) (fun E => ∃ T, Run a b (vals E) T ∧ cnt a T = 2 * a.length ∧ cnt b T = 2 * b.length) (fun _ => True) (2 * m1 + 2 * m2) w1 := fun l J Jx W hW hJ hJx hY h0 => by
  have lx := cell_here hx
  have ly := cell_here hy
  have ex : W.heap[x]? = w1.heap[x]? := hW.block x lx
  have ey : W.heap[y]? = w1.heap[y]? := hW.block y ly
  have hwW : Below w.heap.size w W := hb.trans (hW.mono hb.size)
  exact borders_in n hn l x y w.heap.size ao bo m1 c1 m2 c2 a b ga gb h1 h2 J Jx W hY hJ (fun W' hk => by
    have k1 := hwW.trans hk.below
    refine ⟨?_, ?_, ha.keep k1, hb2.keep k1⟩
    · rw [← hx]; exact World.cell?_of_block (w := w1) (hk.x_.trans ex)
    · rw [← hy]; exact World.cell?_of_block (w := w1) (hk.y_.trans ey)) h0
theorem kx_put {n₀ x y : Nat} {w : World} (h : n₀ ≤ w.heap.size) (hx : x < w.heap.size) (hy : y < w.heap.size) (W : World) (l : Nat) (o o' : Obj) (hl : w.heap.size ≤ l) (h0 : W.heap[l]? = some o) (h1 : o.isCells = false) (h2 : o.isWalk = false) : Kx n₀ x y W (W.putObj l o') :=
  ⟨belowK_b (w := w) h W l o o' hl h0 h1 h2, World.putObj_heap_other (by omega), World.putObj_heap_other (by omega)⟩
theorem kx_set {n₀ x y : Nat} {A W : World} (h : Kx n₀ x y A W) {q : Nat} (hq : n₀ ≤ q) (hx : q ≠ x) (hy : q ≠ y) (v : Value) : Kx n₀ x y A (W.setCell ⟨q, 0, none⟩ v) :=
  ⟨h.below.setCell (p := ⟨q, 0, none⟩) hq v, (Below.heap_setCell W ⟨q, 0, none⟩ v x (Ne.symm hx)).trans h.x_, (Below.heap_setCell W ⟨q, 0, none⟩ v y (Ne.symm hy)).trans h.y_⟩
theorem kx_alloc {n₀ x y : Nat} {A W : World} (h : Kx n₀ x y A W) (hn : n₀ ≤ W.heap.size) (hx : x < W.heap.size) (hy : y < W.heap.size) (o : Obj) : Kx n₀ x y A (W.alloc o) :=
  ⟨h.below.alloc hn o, (Below.heap_alloc W o x hx).trans h.x_, (Below.heap_alloc W o y hy).trans h.y_⟩
/-- What a fold has come to, in the caller's boxes. -/
structure Parts (h : Nat) (fv sa sb : Value) (st : List Sp × Int × Bool) (W : World) : Prop where
  set_ : ∃ v, Boxed W (h + 1) 34 v ∧ W.ownsRow h 50 2 v st.1.length (spCells st.1) ∧ True
  from_ : Boxed W (h + 2) 3 (.int .i64 st.2.1)
  open_ : Boxed W (h + 3) 4 (.bool st.2.2)
  fun_ : Boxed W h 76 fv
  xa : Boxed W (h + 4) 34 sa
  xb : Boxed W (h + 5) 34 sb
abbrev Held (f : Bool → Bool → Bool) (h : Nat) (fv sa sb : Value) (pre : List EvB) (W : World) : Prop := Parts h fv sa sb (puts f (vals pre)) W
theorem held_own (f : Bool → Bool → Bool) (h B : Nat) (fv sa sb : Value) : OwnFrom B (Held f h fv sa sb) := fun s A W row hs hg hr =>
  ⟨holdsRow_own h (h + 1) 34 50 2 (fun pre => (puts f (vals pre)).1.length) (fun pre => spCells (puts f (vals pre)).1) (fun _ _ => True) s A W row hs.set_ hg (fun r e => (hr r e).2),
   boxed_own (h + 2) 3 (fun pre => .int .i64 (puts f (vals pre)).2.1) s A W row hs.from_ hg (fun r e => (hr r e).2),
   boxed_own (h + 3) 4 (fun pre => .bool (puts f (vals pre)).2.2) s A W row hs.open_ hg (fun r e => (hr r e).2),
   boxed_own h 76 (fun (_ : List EvB) => fv) s A W row hs.fun_ hg (fun r e => (hr r e).2),
   boxed_own (h + 4) 34 (fun (_ : List EvB) => sa) s A W row hs.xa hg (fun r e => (hr r e).2),
   boxed_own (h + 5) 34 (fun (_ : List EvB) => sb) s A W row hs.xb hg (fun r e => (hr r e).2)⟩
theorem Parts.alloc {h : Nat} {fv sa sb : Value} {st : List Sp × Int × Bool} {W : World} (k : Parts h fv sa sb st W) (o : Obj) : Parts h fv sa sb st (W.alloc o) := by
  obtain ⟨⟨v, a, b, _⟩, c, d, e, x, y⟩ := k
  exact ⟨⟨v, a.alloc o, keepB b ((Below.refl _ W).alloc (Nat.le_refl _) o), trivial⟩, c.alloc o, d.alloc o, e.alloc o, x.alloc o, y.alloc o⟩
theorem Parts.open_set {h : Nat} {fv sa sb : Value} {R : List Sp} {fr : Int} {op : Bool} {W : World} (k : Parts h fv sa sb (R, fr, op) W) (b' : Bool) : Parts h fv sa sb (R, fr, b') (W.setCell ⟨h + 3, 0, none⟩ (.bool b')) := by
  obtain ⟨⟨v, a, b, _⟩, c, d, e, x, y⟩ := k
  exact ⟨⟨v, a.other (by omega) _, b.kept (grownBy_setCell' W (h + 3) _) (.inr (d.not_row (by decide) b).symm), trivial⟩, c.other (by omega) _, d.set _, e.other (by omega) _, x.other (by omega) _, y.other (by omega) _⟩
theorem Parts.from_set {h : Nat} {fv sa sb : Value} {R : List Sp} {fr : Int} {op : Bool} {W : World} (k : Parts h fv sa sb (R, fr, op) W) (z : Int) : Parts h fv sa sb (R, z, op) (W.setCell ⟨h + 2, 0, none⟩ (.int .i64 z)) := by
  obtain ⟨⟨v, a, b, _⟩, c, d, e, x, y⟩ := k
  exact ⟨⟨v, a.other (by omega) _, b.kept (grownBy_setCell' W (h + 2) _) (.inr (c.not_row (by decide) b).symm), trivial⟩, c.set _, d.other (by omega) _, e.other (by omega) _, x.other (by omega) _, y.other (by omega) _⟩
/-- A span more. -/
theorem Parts.grown {h : Nat} {fv sa sb : Value} {R S : List Sp} {fr : Int} {op : Bool} {W w1 : World} {v v' : Value} {tmp : Obj} (k : Parts h fv sa sb (R, fr, op) W) (hv : Boxed W (h + 1) 34 v) (hrow : W.ownsRow h 50 2 v R.length (spCells R)) (hn : h ≤ W.heap.size)
    {n : Nat} (hS : n = S.length) (hown : w1.ownsRow h 50 2 v' n (spCells S)) (hgrow : (W.alloc tmp).grownBy w1 v.ownBlock) :
    Boxed w1 (h + 1) 34 v ∧ Parts h fv sa sb (S, fr, op) (w1.setCell ⟨h + 1, 0, none⟩ v') ∧ KeepsOthers W (w1.setCell ⟨h + 1, 0, none⟩ v') ∧ Below h W (w1.setCell ⟨h + 1, 0, none⟩ v') := by
  obtain ⟨h1, h2, h3, h4, h5⟩ := hv.appended (n₀ := h) (by decide) hrow hn (by omega) hown hgrow
  obtain ⟨_, c, d, e, x, y⟩ := k
  have far : ∀ {B : Nat} {t : TypeId} {u : Value}, Boxed W B t u → t ≠ 50 → B ≠ h + 1 → Boxed (w1.setCell ⟨h + 1, 0, none⟩ v') B t u := fun b ht hB =>
    ((b.alloc tmp).kept hgrow (b.not_row ht hrow)).other hB _
  exact ⟨h1, ⟨⟨v', h2, by subst hS; exact h3, trivial⟩, far c (by decide) (by omega), far d (by decide) (by omega), far e (by decide) (by omega), far x (by decide) (by omega), far y (by decide) (by omega)⟩, h4, h5⟩
theorem kx_parts {h : Nat} {fv sa sb fv' : Value} {st st' : List Sp × Int × Bool} {n₀ : Nat} {W W' : World} (k : Parts h fv sa sb st W) (k' : Parts h fv' sa sb st' W') (hb : Below n₀ W W') : Kx n₀ (h + 4) (h + 5) W W' :=
  ⟨hb, (show W'.heap[h + 4]? = _ from k'.xa).trans (show W.heap[h + 4]? = _ from k.xa).symm, (show W'.heap[h + 5]? = _ from k'.xb).trans (show W.heap[h + 5]? = _ from k.xb).symm⟩
theorem box_at (W : World) (t : TypeId) (v : Value) {k : Nat} (h : W.heap.size = k) : Boxed (W.alloc (.cells #[v] t)) k t v := by subst h; exact Boxed.new W t v
theorem cells_new2q (w : World) (x y : Value) (t : TypeId) {k : Nat} (hk : w.heap.size = k) : ∀ (j : Nat) (u : Value), [x, y][j]? = some u → (w.alloc (.cells #[x, y] t)).cell? ((⟨k, 0, none⟩ : Addr).add j) = some u := by
  subst hk; exact cells_new2 w x y t
/-- The loop's variable, boxed. -/
def Pair (W : World) (B : Nat) (p q : Bool) : Prop := W.heap[B]? = some (.cells #[.bool p, .bool q] 75 (0, 0))
theorem Pair.lt {W : World} {B : Nat} {p q : Bool} (h : Pair W B p q) : B < W.heap.size := (Array.getElem?_eq_some_iff.1 h).1
theorem Pair.cells {W : World} {B : Nat} {p q : Bool} (h : Pair W B p q) : W.cell? ⟨B, 0, none⟩ = some (.bool p) ∧ W.cell? ⟨B, 1, none⟩ = some (.bool q) := by
  have h' : W.heap[B]? = some (.cells #[.bool p, .bool q] 75 (0, 0)) := h
  constructor <;> (unfold World.cell?; rw [h']; rfl)
theorem vals_snoc (pre : List EvB) (x : EvB) : vals (pre ++ [x]) = vals pre ++ [x.1] := by simp [vals]
theorem puts_len (f : Bool → Bool → Bool) : ∀ (E : List Ev), (puts f E).1.length ≤ E.length := by
  intro E
  obtain ⟨r, hr⟩ : ∃ r, E.reverse = r := ⟨_, rfl⟩
  induction r generalizing E with
  | nil => rw [List.reverse_eq_nil_iff] at hr; subst hr; simp [puts]
  | cons e r ih =>
    have hE : E = r.reverse ++ [e] := by have := congrArg List.reverse hr; simpa using this
    subst hE
    have := ih r.reverse (by simp)
    rw [puts_snoc]
    have e2 : (r.reverse ++ [e]).length = r.reverse.length + 1 := by simp
    rw [e2]
    unfold put
    dsimp only
    split
    · simp only [List.length_append, List.length_cons, List.length_nil]; omega
    · omega
theorem vals_len (E : List EvB) : (vals E).length = E.length := by simp [vals]
def Funion (p q : Bool) : Bool := (p || q)
theorem want_union (p q : Bool) (w : World) : Calls Try.prog 51 #[.agg #[.bool p, .bool q]] w fun e w' => e = .returned (.bool (Funion p q)) ∧ w' = w.alloc (.cells #[.bool p, .bool q] 75) := by
  cases p <;> cases q <;> simp only [Funion]
  all_goals
    go_enter Try.func51, Try.ntmps51
    go_wp2
    go_returns
    exact ⟨rfl, rfl⟩
set_option maxRecDepth 100000 in
set_option maxHeartbeats 4000000 in
theorem keep_union (ao bo : Option Addr) (m1 c1 m2 c2 : Nat) (a b : List Sp) (ga : Good a) (gb : Good b) (h1 : m1 ≤ 1000000) (h2 : m2 ≤ 1000000) (w : World) (ha : SpAt w ao m1 c1 a) (hb : SpAt w bo m2 c2 b) :
    Calls Try.prog 50 #[.slice ao m1 c1, .slice bo m2 c2, .func (.func 51) #[] #[]] w fun e w' => ∃ v r, e = .returned v ∧ Good r ∧ (∀ t, mem r t ↔ Funion (decide (cnt a t % 2 = 1)) (decide (cnt b t % 2 = 1)) = true) ∧ r.length ≤ 2 * m1 + 2 * m2 ∧ w'.ownsRow w.heap.size 50 2 v r.length (spCells r) ∧ Below w.heap.size w w' := by
  obtain ⟨i0, hi, hz0, hz1, hz2⟩ := info_parts info50
  refine (callsIn_wide (n := 3)).1 ?_
  refine callsIn_of_wp_marks Try.func50 rfl trivial ?_ rfl
  simp only [Try.ntmps50, List.size_toArray, List.length_cons, List.length_nil, Nat.reduceAdd, Nat.reduceSub, Array.replicate_succ, Array.replicate_zero, List.push_toArray, List.append_toArray, List.nil_append, List.cons_append]
  gi_wp2_with (refine ⟨trivial, ?_⟩; gi_at_call 75; refine (callsIn_wide.2 (borders_any ao bo m1 c1 m2 c2 _)).mono ?_; rintro e w' ⟨rfl, rfl⟩)
  obtain ⟨h, hh⟩ : ∃ h, w.heap.size = h := ⟨_, rfl⟩
  have s1 : h + 1 + 1 = h + 2 := by omega
  have s2 : h + 2 + 1 = h + 3 := by omega
  have s3 : h + 3 + 1 = h + 4 := by omega
  have s4 : h + 4 + 1 = h + 5 := by omega
  rw [hh]
  simp only [s1, s2, s3, s4]
  obtain ⟨W0, hW0⟩ : ∃ W0, ((((((w.alloc (.cells #[.func (.func 51) #[] #[]] 76)).alloc (.cells #[.slice none 0 0] 34)).alloc (.cells #[.int .i64 0] 3)).alloc (.cells #[.bool false] 4)).alloc (.cells #[.slice ao m1 c1] 34)).alloc (.cells #[.slice bo m2 c2] 34)) = W0 := ⟨_, rfl⟩
  have hsz : W0.heap.size = h + 6 := by rw [← hW0, ← hh]; simp
  have b0 : Boxed W0 h 76 (.func (.func 51) #[] #[]) := by rw [← hW0]; exact (((((box_at w 76 _ hh).alloc _).alloc _).alloc _).alloc _).alloc _
  have b1 : Boxed W0 (h + 1) 34 (.slice none 0 0) := by rw [← hW0]; exact ((((box_at _ 34 _ (by simp [hh])).alloc _).alloc _).alloc _).alloc _
  have b2 : Boxed W0 (h + 2) 3 (.int .i64 0) := by rw [← hW0]; exact (((box_at _ 3 _ (by simp [hh])).alloc _).alloc _).alloc _
  have b3 : Boxed W0 (h + 3) 4 (.bool false) := by rw [← hW0]; exact ((box_at _ 4 _ (by simp [hh])).alloc _).alloc _
  have b4 : Boxed W0 (h + 4) 34 (.slice ao m1 c1) := by rw [← hW0]; exact (box_at _ 34 _ (by simp [hh])).alloc _
  have b5 : Boxed W0 (h + 5) 34 (.slice bo m2 c2) := by rw [← hW0]; exact box_at _ 34 _ (by simp [hh])
  have hB0 : Below w.heap.size w W0 := by rw [← hW0]; exact ((((((Below.refl _ w).alloc (Nat.le_refl _) _).alloc (by simp) _).alloc (by simp; omega) _).alloc (by simp; omega) _).alloc (by simp; omega) _).alloc (by simp; omega) _
  rw [hW0]
  clear hW0
  refine wpIn_rangeFunc_ownH rfl (by omega) (gf := 87) (lb := #[.pointer (some ⟨h + 4, 0, none⟩), .pointer (some ⟨h + 5, 0, none⟩)]) rfl trivial (enters_of Try.func87 (by kernel_rfl) rfl)
    (borders_stops 2 (by omega) (h + 4) (h + 5) ao bo m1 c1 m2 c2 a b ga gb h1 h2 w W0 hB0 b4.cell b5.cell ha hb) (fun p q => p.trans q) (kx_put (by rw [hh, hsz]; omega) (by omega) (by omega)) (Below.refl _ _) (fun _ => rfl)
    (fun pre W => Held Funion h (.func (.func 51) #[] #[]) (.slice ao m1 c1) (.slice bo m2 c2) pre W ∧ (Below w.heap.size w W ∧ (h + 6 ≤ W.heap.size ∧ pre.length ≤ 2 * m1 + 2 * m2)))
    (fun _ _ _ => False)
    (OwnFrom.and (held_own _ _ _ _ _ _) (OwnFrom.and (ownFrom_below (Nat.le_refl _) (by rw [hh, hsz]; omega)) (fun s A W row hs hg hr => ⟨Nat.le_trans hs.1 hg.size, hs.2⟩)))
    (fun _ _ _ _ _ hs _ _ => hs)
    ⟨⟨⟨_, b1, World.ownsRow_nil _ _ _ _, trivial⟩, b2, b3, b0, b4, b5⟩, hB0, by omega, by simp⟩
    (fun x a' W => ∃ Bx : Nat, True ∧ Pair W Bx x.1.2.1 x.1.2.2 ∧ a' = { tmps := #[.slice ao m1 c1, .slice bo m2 c2, .func (.func 51) #[] #[], undef, undef, .pointer (some ⟨h, 0, none⟩), .slice none 0 0, .pointer (some ⟨h + 1, 0, none⟩), .pointer (some ⟨h + 2, 0, none⟩), .pointer (some ⟨h + 3, 0, none⟩), .int .i64 x.1.1, .pointer (some ⟨Bx, 0, none⟩), undef, .slice ao m1 c1, .slice bo m2 c2, .func (.func 87) #[] #[.pointer (some ⟨h + 4, 0, none⟩), .pointer (some ⟨h + 5, 0, none⟩)], .int .i64 x.1.1, .agg #[.bool x.1.2.1, .bool x.1.2.2], undef, undef, undef, undef, undef, undef, undef, undef, undef, undef, undef, undef, undef, undef, undef, undef, undef, undef, undef, undef, undef, undef, undef], defers := [] })
    ?hAx ?assign ?body ?done ?stop
  case hAx =>
    rintro x a' s A W row ⟨Bx, hBx, hp, rfl⟩ hg hr
    refine ⟨Bx, hBx, (hg.block Bx hp.lt (fun e => ?_)).trans hp, rfl⟩
    obtain ⟨_, o, ho, hc⟩ := hr Bx e.symm
    rw [show A.heap[Bx]? = _ from hp] at ho; cases ho; cases hc
  case assign =>
    rintro l pre x W K ⟨hi0, hB, hS6, hS7⟩ hK
    obtain ⟨⟨z, p, q⟩, hz⟩ := x
    have hl1 := hi0.open_.lt
    unfold encs
    have KH := Lib.hid hi0
    have KB := Lib.hid hB
    clear hi0 hB hl1
    gi_wp2
    exact hK _ _ ((KeepsOthers.alloc _ _).from _) (kx_alloc (Kx.refl _ _ _ _) (by omega) (by omega) (by omega) _) ⟨KH.out.alloc _, KB.out.alloc (by omega) _, by simp; omega, hS7⟩ ⟨W.heap.size, trivial, World.alloc_heap_new W _, rfl⟩
  case body =>
    rintro l pre x a' W hl ⟨r, hr⟩ ⟨hH, hB, hS6, hS7⟩ ⟨Bx, hBx, hp, rfl⟩ hlt
    obtain ⟨⟨z, p, q⟩, hz⟩ := x
    have hpl := puts_len Funion (vals pre)
    rw [vals_len] at hpl
    have HS := Lib.hid (puts_snoc Funion (vals pre) (z, p, q))
    obtain ⟨st, hst⟩ : ∃ st, puts Funion (vals pre) = st := ⟨_, rfl⟩
    have hH' : Parts h (.func (.func 51) #[] #[]) (.slice ao m1 c1) (.slice bo m2 c2) (puts Funion (vals pre)) W := hH
    rw [hst] at hH' hpl HS
    obtain ⟨R, fr, op⟩ := st
    have HH := Lib.hid hH'
    have HBW := Lib.hid hB
    clear hH hH' hst hB
    have f0 := HH.out.fun_.cell
    obtain ⟨p0, p1⟩ := hp.cells
    have PA := HH.out.alloc (.cells #[.bool p, .bool q] 75)
    have o0 := PA.open_.cell
    have o1 := PA.open_.frozen
    have o2 := PA.from_.cell
    have o3 := PA.from_.frozen
    have WA := Lib.hid (fun (w : World) => want_union p q w)
    have HI := Lib.hid hi
    have HZ0 := Lib.hid hz0
    have HZ1 := Lib.hid hz1
    have HZ2 := Lib.hid hz2
    clear PA hi hz0 hz1 hz2 hp
    dsimp only at hz hpl
    obtain ⟨hz3, hz4⟩ := hz
    cases op
    · cases hw : Funion p q
      · rw [hw] at WA
        have HS2 : Hid (puts Funion (vals pre ++ [(z, p, q)]) = (R, fr, false)) := Lib.hid (by rw [HS.out]; unfold put; simp [hw])
        clear hw HS
        have PF := Lib.hid ((HH.out.alloc (.cells #[.bool p, .bool q] 75)).open_set false)
        have BF := Lib.hid (((Below.refl h W).alloc (by omega) (.cells #[.bool p, .bool q] 75)).setCell (p := ⟨h + 3, 0, none⟩) (by show _ ≤ h + 3; omega) (.bool false))
        gi_wp2_with (first | (refine ⟨trivial, ?_⟩; gi_at_call 51; with_reducible refine (CallsIn.inRound l (callsIn_wide.2 (WA.out _))).mono ?_; rintro e z1 ⟨rfl, rfl⟩))
        exact ⟨((KeepsOthers.alloc _ _).trans (KeepsOthers.setCell _ _ _)).from _, kx_parts HH.out PF.out (by rw [hh]; exact BF.out), by show Parts _ _ _ _ (puts _ (vals (pre ++ [_]))) _; rw [vals_snoc, HS2.out]; exact PF.out, HBW.out.trans (by rw [hh]; exact BF.out), by have := BF.out.size; omega, by simp; omega⟩
      · rw [hw] at WA
        have HS2 : Hid (puts Funion (vals pre ++ [(z, p, q)]) = (R, z, true)) := Lib.hid (by rw [HS.out]; unfold put; simp [hw])
        clear hw HS
        have PF := Lib.hid (((HH.out.alloc (.cells #[.bool p, .bool q] 75)).from_set z).open_set true)
        have BF := Lib.hid ((((Below.refl h W).alloc (by omega) (.cells #[.bool p, .bool q] 75)).setCell (p := ⟨h + 2, 0, none⟩) (by show _ ≤ h + 2; omega) (.int .i64 z)).setCell (p := ⟨h + 3, 0, none⟩) (by show _ ≤ h + 3; omega) (.bool true))
        gi_wp2_with (first | (refine ⟨trivial, ?_⟩; gi_at_call 51; with_reducible refine (CallsIn.inRound l (callsIn_wide.2 (WA.out _))).mono ?_; rintro e z1 ⟨rfl, rfl⟩))
        exact ⟨(((KeepsOthers.alloc _ _).trans (KeepsOthers.setCell _ _ _)).trans (KeepsOthers.setCell _ _ _)).from _, kx_parts HH.out PF.out (by rw [hh]; exact BF.out), by show Parts _ _ _ _ (puts _ (vals (pre ++ [_]))) _; rw [vals_snoc, HS2.out]; exact PF.out, HBW.out.trans (by rw [hh]; exact BF.out), by have := BF.out.size; omega, by simp; omega⟩
    · cases hw : Funion p q
      · rw [hw] at WA
        have HS2 : Hid (puts Funion (vals pre ++ [(z, p, q)]) = (R ++ [(fr, z - 1)], fr, false)) := Lib.hid (by rw [HS.out]; unfold put; simp [hw])
        clear hw HS
        have hz1' : -9223372036854775808 ≤ z - 1 := by omega
        have hz2' : z - 1 ≤ 9223372036854775807 := by omega
        have HPA := Lib.hid (HH.out.alloc (.cells #[.bool p, .bool q] 75))
        obtain ⟨v, hv, hrow, _⟩ := HPA.out.set_
        have hcv := hv.cell
        dsimp only at hrow
        have HV := Lib.hid hv
        have HROW := Lib.hid hrow
        have HCC : Hid (spCells R ++ [.int .i64 fr, .int .i64 (z - 1)] = spCells (R ++ [(fr, z - 1)])) := Lib.hid (by rw [spCells_snoc])
        have HLL : Hid (R.length + 1 = (R ++ [(fr, z - 1)]).length) := Lib.hid (by simp)
        clear hv hrow
        gi_wp2_with (first | (refine ⟨trivial, ?_⟩; gi_at_call 51; with_reducible refine (CallsIn.inRound l (callsIn_wide.2 (WA.out _))).mono ?_; rintro e z1 ⟨rfl, rfl⟩) | (gi_at_builtin; refine wpListIn_append_own _ rfl _ _ 34 rfl h 50 i0 (.agg #[.int .i64 0, .int .i64 0]) 2 16 Try.underlying34 HI.out HZ0.out HZ1.out HZ2.out rfl (by decide) _ _ _ rfl (keepB HROW.out ((Below.refl _ _).alloc (Nat.le_refl _) _)) ⟨W.heap.size + 1, 0, none⟩ 1 1 [.int .i64 fr, .int .i64 (z - 1)] rfl rfl (cells_new2q _ _ _ _ (by simp)) (by intro y hy; simp at hy; rcases hy with rfl | rfl <;> rfl) (by unfold maxLen; omega) (by omega) (by simp; omega) ?_; intro v' w1 hown' hgrow _; rw [HCC.out] at hown'; obtain ⟨g', cap', rfl⟩ := ownsRow_succ hown'; have q0 := HPA.out; have q1 := HV.out; have q2 := HROW.out; obtain ⟨hv1, pb, hk2, hb2⟩ := q0.grown q1 q2 (by simp; omega) HLL.out hown' hgrow; have hc1 := hv1.cell; have hf1 := hv1.frozen; have PB := Lib.hid pb; have BF2 := Lib.hid ((((Below.refl h W).alloc (by omega) (.cells #[.bool p, .bool q] 75)).trans hb2).setCell (p := ⟨h + 3, 0, none⟩) (by show _ ≤ h + 3; omega) (.bool false)); have HK2 := Lib.hid hk2; have HB2 := Lib.hid hb2; have o4 := pb.open_.cell; have o5 := pb.open_.frozen; clear q0 q1 q2 hown' hgrow hv1 pb hk2 hb2))
        exact ⟨(((KeepsOthers.alloc _ _).trans HK2.out).trans (KeepsOthers.setCell _ _ _)).from _, kx_parts HH.out (PB.out.open_set false) (by first | exact BF2.out | (rw [hh]; exact BF2.out)), by show Parts _ _ _ _ (puts _ (vals (pre ++ [_]))) _; rw [vals_snoc, HS2.out]; exact PB.out.open_set false, (by first | exact HBW.out.trans (by rw [hh]; exact BF2.out) | (have q := HBW.out; rw [hh] at q; exact q.trans BF2.out)), by have := HB2.out.size; simp at this ⊢; omega, by simp; omega⟩
      · rw [hw] at WA
        have HS2 : Hid (puts Funion (vals pre ++ [(z, p, q)]) = (R, fr, true)) := Lib.hid (by rw [HS.out]; unfold put; simp [hw])
        clear hw HS
        have PF := Lib.hid ((HH.out.alloc (.cells #[.bool p, .bool q] 75)).open_set true)
        have BF := Lib.hid (((Below.refl h W).alloc (by omega) (.cells #[.bool p, .bool q] 75)).setCell (p := ⟨h + 3, 0, none⟩) (by show _ ≤ h + 3; omega) (.bool true))
        gi_wp2_with (first | (refine ⟨trivial, ?_⟩; gi_at_call 51; with_reducible refine (CallsIn.inRound l (callsIn_wide.2 (WA.out _))).mono ?_; rintro e z1 ⟨rfl, rfl⟩))
        exact ⟨((KeepsOthers.alloc _ _).trans (KeepsOthers.setCell _ _ _)).from _, kx_parts HH.out PF.out (by rw [hh]; exact BF.out), by show Parts _ _ _ _ (puts _ (vals (pre ++ [_]))) _; rw [vals_snoc, HS2.out]; exact PF.out, HBW.out.trans (by rw [hh]; exact BF.out), by have := BF.out.size; omega, by simp; omega⟩
  case done =>
    rintro D ys W hD ⟨T, hrun, e1, e2⟩ ⟨hH, hB, hS6, hS7⟩ hK
    have hH' : Parts h (.func (.func 51) #[] #[]) (.slice ao m1 c1) (.slice bo m2 c2) (puts Funion (vals ys)) W := hH
    obtain ⟨v, hv, hrow, _⟩ := hH'.set_
    have hc := hv.cell
    gi_wp2
    refine ⟨by simp, .inl ⟨_, _, rfl, run_takeDeferred hK, ?_⟩⟩
    have q1 := puts_len Funion (vals ys)
    rw [vals_len] at q1
    refine ⟨_, results_tmp rfl _ _ _, v, rfl, (puts Funion (vals ys)).1, (puts_done (f := Funion) rfl ga gb hrun e1 e2).1, (puts_done (f := Funion) rfl ga gb hrun e1 e2).2, by omega, ownsRow_putObj hrow _ hK rfl, (by have q := hB.trans (belowK_b (w := w) (Nat.le_refl _) W D _ (.deferred none) (by omega) hK rfl rfl); rw [hh] at q; exact q)⟩
  case stop =>
    rintro D c pre W _ _ h' _
    exact h'.elim
attribute [local go_sem] Oper.semAt_some
theorem union_any (ao bo : Option Addr) (m1 c1 m2 c2 : Nat) (a b : List Sp) (ga : Good a) (gb : Good b) (h1 : m1 ≤ 1000000) (h2 : m2 ≤ 1000000) (w : World) (ha : SpAt w ao m1 c1 a) (hb : SpAt w bo m2 c2 b) :
    Calls Try.prog 28 #[.slice ao m1 c1, .slice bo m2 c2] w fun e w' => ∃ v r, e = .returned v ∧ Good r ∧ (∀ t, mem r t ↔ mem a t ∨ mem b t) ∧ r.length ≤ 2 * m1 + 2 * m2 ∧ w'.ownsRow w.heap.size 50 2 v r.length (spCells r) ∧ Below w.heap.size w w' := by
  have K := keep_union ao bo m1 c1 m2 c2 a b ga gb h1 h2 w ha hb
  go_enter Try.func28, Try.ntmps28
  go_wp2_with (go_at_call 50; with_reducible refine K.mono ?_; rintro e w1 ⟨v, r, rfl, g1, g2, g3, g4, g5⟩)
  go_returns
  refine ⟨v, r, rfl, g1, fun t => ?_, g3, g4, g5⟩
  rw [g2, cnt_mem ga, cnt_mem gb]; simp [Funion]
end
end Go.Proofs.Ytmjapbjjfhmohaa
