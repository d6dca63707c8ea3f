/- Contracts: borders: the events of two right sets. -/
import Derived.RangeFuncNested
import Derived.RangeFuncBound
import Derived.RangeFuncCalls
import Derived.RangeFuncLeaves
import Derived.Shelf.Abstract
import Derived.Shelf.RegionOpen
import Derived.OwnWalkIn
import Derived.TacticsInMore
import Derived.LoopNIn
import Derived.LoopIn
import Derived.Test.YthjpnnggghfepaaS8
namespace Go.Proofs.Ythjpnnggghfepaa
set_option linter.unusedVariables false
set_option linter.unusedSimpArgs false
open Go.ChangeShapes Go.WideShapes Go.ChangeAt Go.RowKit Go.Shelf
attribute [local go_sem] Oper.semAt_some
/-- What lay below, and two boxes, lie as they lay. -/
structure Kx (n₀ x y : Nat) (W W' : World) : Prop where
  below : Below n₀ W W'
  x_ : W'.heap[x]? = W.heap[x]?
  y_ : W'.heap[y]? = W.heap[y]?
theorem Kx.refl (n₀ x y : Nat) (W : World) : Kx n₀ x y W W := ⟨Below.refl _ _, rfl, rfl⟩
theorem Kx.trans {n₀ x y : Nat} {A B C : World} (h : Kx n₀ x y A B) (k : Kx n₀ x y B C) : Kx n₀ x y A C := ⟨h.below.trans k.below, k.x_.trans h.x_, k.y_.trans h.y_⟩
theorem Kx.drewN {n₀ x y : Nat} {A B : World} (h : Kx n₀ x y A B) (k : Nat) : Kx n₀ x y A (B.drewN k) := ⟨below_drewN h.below k, h.x_, h.y_⟩
/-- An event whose tick fits. -/
abbrev EvB := { e : Ev // -1099511627777 ≤ e.1 ∧ e.1 ≤ 1099511627777 }
def encs (x : EvB) : Array Value := #[.int .i64 x.1.1, .agg #[.bool x.1.2.1, .bool x.1.2.2]]
def vals (E : List EvB) : List Ev := E.map (·.1)
theorem borders_any (ao bo : Option Addr) (n c m d : Nat) (w : World) : Calls Try.prog 54 #[.slice ao n c, .slice bo m d] w fun e w' => e = .returned (.func (.func 67) #[] #[.pointer (some ⟨w.heap.size, 0, none⟩), .pointer (some ⟨w.heap.size + 1, 0, none⟩)]) ∧ w' = (w.alloc (.cells #[.slice ao n c] 22)).alloc (.cells #[.slice bo m d] 22) := by
  go_enter Try.func54, Try.ntmps54
  go_wp2
  go_returns
  exact ⟨rfl, rfl⟩
/-- One event more, at a border of one of the two or of both. -/
theorem run_step {a b : List Sp} (ga : Good a) (gb : Good b) {E : List Ev} {T x : Int} (h : Run a b E T)
    (hx : T < x) (hx2 : x ≤ 1099511627777) (ha : cnt a T < 2 * a.length → x ≤ bd a (cnt a T)) (hb : cnt b T < 2 * b.length → x ≤ bd b (cnt b T)) :
    Run a b (E ++ [(x, odd (cnt a x), odd (cnt b x))]) x := by
  refine .more h hx hx2 (fun t h1 h2 => ⟨?_, ?_⟩)
  · by_cases q : cnt a T < 2 * a.length
    · exact (bd_next ga T q).2.1 t h1 (by have := ha q; omega)
    · have := cnt_le a T
      rw [cnt_all (by omega) h1]; omega
  · by_cases q : cnt b T < 2 * b.length
    · exact (bd_next gb T q).2.1 t h1 (by have := hb q; omega)
    · have := cnt_le b T
      rw [cnt_all (by omega) h1]; omega
theorem cnt_hit {a : List Sp} (ga : Good a) {T : Int} (q : cnt a T < 2 * a.length) {x : Int} (e : x = bd a (cnt a T)) : cnt a x = cnt a T + 1 := by rw [e]; exact (bd_next ga T q).2.2.1
theorem cnt_miss {a : List Sp} (ga : Good a) {T x : Int} (hx : T ≤ x) (e : cnt a T < 2 * a.length → x < bd a (cnt a T)) : cnt a x = cnt a T := by
  by_cases q : cnt a T < 2 * a.length
  · exact (bd_next ga T q).2.1 x hx (e q)
  · have := cnt_le a T
    rw [cnt_all (by omega) hx]; omega
theorem odd_int (n : Nat) : ((n : Int) % 2 == 1) = odd n := by
  unfold odd
  by_cases q : n % 2 = 1
  · have : (n : Int) % 2 = 1 := by omega
    rw [this, q]; rfl
  · have : (n : Int) % 2 = 0 := by omega
    have q2 : n % 2 = 0 := by omega
    rw [this, q2]; rfl
set_option maxRecDepth 100000 in
set_option maxHeartbeats 4000000 in
theorem borders_in (n : Nat) (hn : 1 ≤ n) (l x y n₀ : Nat) (ao bo : Option Addr) (m1 c1 m2 c2 : Nat) (a b : List Sp) (ga : Good a) (gb : Good b) (h1 : m1 ≤ 1000000) (h2 : m2 ≤ 1000000) (J Jx : List EvB → World → Prop) (W : World)
    (hY : ∀ pre z W, J pre W → pre.length < 2 * m1 + 2 * m2 → YieldAt Fence.wide (n - 1) Try.prog l (encs z) W fun e W' =>
      (e = .returned (.bool true) ∧ J (pre ++ [z]) W' ∧ Kx n₀ x y W W') ∨ (e = .returned (.bool false) ∧ Jx (pre ++ [z]) W'))
    (hJ : AbidesFrom W.heap.size J)
    (hk : ∀ W', Kx n₀ x y W W' → W'.cell? ⟨x, 0, none⟩ = some (.slice ao m1 c1) ∧ W'.cell? ⟨y, 0, none⟩ = some (.slice bo m2 c2) ∧ SpAt W' ao m1 c1 a ∧ SpAt W' bo m2 c2 b) (h0 : J [] W) :
    CallsIn Fence.wide n Try.prog 67 #[.func (.yield l) #[] #[], .pointer (some ⟨x, 0, none⟩), .pointer (some ⟨y, 0, none⟩)] W fun e W' => (∃ v, e = .returned v) ∧
      ((∃ E, (∃ T, Run a b (vals E) T ∧ cnt a T = 2 * a.length ∧ cnt b T = 2 * b.length) ∧ J E W') ∨ (∃ pre, True ∧ Jx pre W')) := by
  have LA := Lib.hid (hk W (Kx.refl _ _ _ _)).2.2.1.len
  have LB := Lib.hid (hk W (Kx.refl _ _ _ _)).2.2.2.len
  have HK := Lib.hid hk
  have HY := Lib.hid hY
  have HJ := Lib.hid hJ
  have GA := Lib.hid ga
  have GB := Lib.hid gb
  have BA := Lib.hid (fun (m : Nat) hm (W' : World) (hb : Kx n₀ x y W W') => border_any ao m1 c1 m a ga hm (by omega) W' (hk W' hb).2.2.1)
  have BB := Lib.hid (fun (m : Nat) hm (W' : World) (hb : Kx n₀ x y W W') => border_any bo m2 c2 m b gb hm (by omega) W' (hk W' hb).2.2.2)
  clear hk hY hJ ga gb
  refine callsIn_of_wp Try.func67 rfl trivial ?_ rfl
  simp only [Try.ntmps67, List.size_toArray, List.length_cons, List.length_nil, Nat.reduceAdd, Nat.reduceSub, Array.replicate_succ, Array.replicate_zero, List.push_toArray, List.append_toArray, List.nil_append, List.cons_append]
  gi_wp2
  gi_loopw [4, 5] (fun i j wr => ∃ (pre : List EvB) (T : Int) (I K : Nat), i = .int .i64 I ∧ j = .int .i64 K ∧ Hid (cnt a T = I ∧ cnt b T = K) ∧ Hid (Run a b (vals pre) T) ∧ Hid (pre.length ≤ I + K) ∧ Hid (J pre wr) ∧ Hid (Kx n₀ x y W wr)) (fun i j _ => (2 * m1 + 2 * m2) - ((intOf i).toNat + (intOf j).toNat))
  case atStart => exact ⟨[], -1099511627777, 0, 0, rfl, rfl, Lib.hid ⟨cnt_low GA.out (by omega), cnt_low GB.out (by omega)⟩, Lib.hid .start, Lib.hid (Nat.zero_le _), Lib.hid h0, Lib.hid (Kx.refl _ _ _ _)⟩
  case round =>
    obtain ⟨pre, T, I, K, rfl, rfl, HC, HR, HL, HJ0, HB⟩ := hrel
    have hI : I ≤ 2 * m1 := by have := cnt_le a T; have := HC.out.1; have := LA.out; omega
    have hK : K ≤ 2 * m2 := by have := cnt_le b T; have := HC.out.2; have := LB.out; omega
    have d1 := (HK.out _ HB.out).1
    have d2 := (HK.out _ HB.out).2.1
    obtain ⟨A2, hA2⟩ : ∃ z : Nat, 2 * m1 = z := ⟨_, rfl⟩
    obtain ⟨B2, hB2⟩ : ∃ z : Nat, 2 * m2 = z := ⟨_, rfl⟩
    have e1 : IntKind.i64.wrap (2 * (m1 : Int)) = (A2 : Int) := by rw [IntWalk.i64_in _ (by omega)]; omega
    have e2 : IntKind.i64.wrap (2 * (m2 : Int)) = (B2 : Int) := by rw [IntWalk.i64_in _ (by omega)]; omega
    have e3 : 2 * (m1 : Int) = (A2 : Int) := by omega
    have e4 : 2 * (m2 : Int) = (B2 : Int) := by omega
    have HA2 := Lib.hid hA2
    have HB2 := Lib.hid hB2
    have u1 : A2 ≤ 2000000 := by omega
    have u2 : B2 ≤ 2000000 := by omega
    have i0 : (0 : Int) ≤ (I : Int) := by omega
    have k0 : (0 : Int) ≤ (K : Int) := by omega
    rw [hA2] at hI
    rw [hB2] at hK
    clear hA2 hB2
    by_cases hi : I < A2
    · have ti : (I : Int) < (A2 : Int) := by omega
      have ti2 : ((I : Int) == (A2 : Int)) = false := by simp; omega
      have hIa : cnt a T < 2 * a.length := by have := HC.out.1; have := LA.out; have := HA2.out; omega
      have NA := Lib.hid (bd_next GA.out T hIa)
      have PA := Lib.hid (BA.out I (by have := HA2.out; omega))
      by_cases hk2 : K < B2
      · have tk : (K : Int) < (B2 : Int) := by omega
        have tk2 : ((K : Int) == (B2 : Int)) = false := by simp; omega
        have hKb : cnt b T < 2 * b.length := by have := HC.out.2; have := LB.out; have := HB2.out; omega
        have NB := Lib.hid (bd_next GB.out T hKb)
        have PB := Lib.hid (BB.out K (by have := HB2.out; omega))
        have HHa := Lib.hid hIa
        have HHb := Lib.hid hKb
        clear hIa hKb
        rw [HC.out.1] at NA
        rw [HC.out.2] at NB
        obtain ⟨u, hu⟩ : ∃ z, bd a I = z := ⟨_, rfl⟩
        obtain ⟨v, hv⟩ : ∃ z, bd b K = z := ⟨_, rfl⟩
        rw [hu] at NA PA
        rw [hv] at NB PB
        have HU := Lib.hid hu
        have HV := Lib.hid hv
        have PA2 : Hid (∀ k, Calls Try.prog 68 #[.slice ao m1 c1, .int .i64 I] (wr.drewN k) fun e w' => e = .returned (.int .i64 u) ∧ w' = wr.drewN k) := Lib.hid (fun k => (PA.out _ (Kx.drewN HB.out k)).mono fun e w' h => ⟨h.1, h.2.symm⟩)
        have PB2 : Hid (∀ k, Calls Try.prog 68 #[.slice bo m2 c2, .int .i64 K] (wr.drewN k) fun e w' => e = .returned (.int .i64 v) ∧ w' = wr.drewN k) := Lib.hid (fun k => (PB.out _ (Kx.drewN HB.out k)).mono fun e w' h => ⟨h.1, h.2.symm⟩)
        clear hu hv
        rcases Int.lt_trichotomy u v with huv | huv | huv
        · have t5 : decide (u ≤ v) = true := decide_eq_true (by omega)
          have t6 : decide (v ≤ u) = false := decide_eq_false (by omega)
          have HT := Lib.hid (show T < u from NA.out.1)
          have hat : -1099511627777 ≤ u ∧ u ≤ 1099511627777 := ⟨by have := NA.out.2.2.2.1; omega, NA.out.2.2.2.2⟩
          have HC2 : Hid (cnt a u = I + 1 ∧ cnt b u = K) := Lib.hid ⟨by have := cnt_hit GA.out HHa.out (by rw [HC.out.1, HU.out]); rw [this, HC.out.1], by have := cnt_miss GB.out (Int.le_of_lt HT.out) (fun q => by rw [HC.out.2, HV.out]; exact huv); rw [this, HC.out.2]⟩
          have HR2 : Hid (Run a b (vals (pre ++ [⟨(u, odd (I + 1), odd (K)), hat⟩])) u) := Lib.hid (by
            have := run_step GA.out GB.out HR.out HT.out hat.2 (fun _ => by rw [HC.out.1, HU.out]; omega) (fun _ => by rw [HC.out.2, HV.out]; omega)
            rw [HC2.out.1, HC2.out.2] at this
            simpa [vals] using this)
          have t7 : (((I : Int) + 1) % 2 == 1) = odd (I + 1) := by have := odd_int (I + 1); simpa using this
          have t8 : ((K : Int) % 2 == 1) = odd K := odd_int K
          gi_wp2
          refine wpIn_wide.2 ?_
          go_quiet ((first | (go_at_call 68; with_reducible exact Calls.quiet_of_same (PA2.out _)) | (go_at_call 68; with_reducible exact Calls.quiet_of_same (PB2.out _))))
          obtain ⟨w2, hw2⟩ : ∃ z, wr.drewN nq = z := ⟨_, rfl⟩
          have HB2' : Hid (Kx n₀ x y W w2) := Lib.hid (by rw [← hw2]; exact Kx.drewN HB.out _)
          have HJ2 : Hid (J pre w2) := Lib.hid (by rw [← hw2]; exact HJ.out _ _ _ none HJ0.out ⟨rfl, rfl, rfl, Nat.le_refl _, fun _ _ _ => rfl⟩ (fun r e => by cases e))
          rw [hw2]
          have dw1 := (HK.out _ HB2'.out).1
          have dw2 := (HK.out _ HB2'.out).2.1
          clear hw2 d1 d2
          have PA3 : Hid (∀ k, Calls Try.prog 68 #[.slice ao m1 c1, .int .i64 I] (w2.drewN k) fun e w' => e = .returned (.int .i64 u) ∧ w' = w2.drewN k) := Lib.hid (fun k => (PA.out _ (Kx.drewN HB2'.out k)).mono fun e w' h => ⟨h.1, h.2.symm⟩)
          have PB3 : Hid (∀ k, Calls Try.prog 68 #[.slice bo m2 c2, .int .i64 K] (w2.drewN k) fun e w' => e = .returned (.int .i64 v) ∧ w' = w2.drewN k) := Lib.hid (fun k => (PB.out _ (Kx.drewN HB2'.out k)).mono fun e w' h => ⟨h.1, h.2.symm⟩)
          gi_wp2
          refine wpIn_wide.2 ?_
          go_quiet ((first | (go_at_call 68; with_reducible exact Calls.quiet_of_same (PA3.out _)) | (go_at_call 68; with_reducible exact Calls.quiet_of_same (PB3.out _))))
          obtain ⟨z, hz⟩ : ∃ z, w2.drewN nq = z := ⟨_, rfl⟩
          have HBz : Hid (Kx n₀ x y W z) := Lib.hid (by rw [← hz]; exact Kx.drewN HB2'.out _)
          have HJz : Hid (J pre z) := Lib.hid (by rw [← hz]; exact HJ.out _ _ _ none HJ2.out ⟨rfl, rfl, rfl, Nat.le_refl _, fun _ _ _ => rfl⟩ (fun r e => by cases e))
          rw [hz]
          have dz1 := (HK.out _ HBz.out).1
          have dz2 := (HK.out _ HBz.out).2.1
          clear hz dw1 dw2
          obtain ⟨fn, tmps, assign, body, hy, hR⟩ := HY.out pre ⟨(u, odd (I + 1), odd (K)), hat⟩ z HJz.out (by have := HL.out; have := HA2.out; have := HB2.out; omega)
          have HRr := Lib.hid hR
          clear hR
          dsimp only [encs] at hy
          clear huv
          gi_wp2_with (first | (refine ⟨trivial, ?_⟩; gi_at_call 68; with_reducible refine (callsIn_wide.2 (PA.out _ HBz.out)).mono ?_; rintro e z1 ⟨rfl, rfl⟩))
          refine HRr.out.mono ?_
          rintro e W3 (⟨rfl, hJ3, hk3⟩ | ⟨rfl, hJx3⟩)
          · have HJ3 := Lib.hid hJ3
            have HB3 := Lib.hid (HBz.out.trans hk3)
            have HL3 : Hid ((pre ++ [(⟨(u, odd (I + 1), odd (K)), hat⟩ : EvB)]).length ≤ (I + 1) + (K)) := Lib.hid (by have := HL.out; simp; omega)
            clear hy hJ3 hk3 HRr dz1 dz2
            gi_wp2
            go_roundw
            case rel => exact ⟨_, u, I + 1, K, by go_num, by go_num, HC2, HR2, HL3, HJ3, HB3⟩
            case measure => simp [intOf]; have := HA2.out; have := HB2.out; omega
          · have HJx3 := Lib.hid hJx3
            clear hy hJx3 HRr dz1 dz2
            gi_wp2
            refine bodyPost_ret (results_none rfl _ _ _) rfl ?_
            exact ⟨⟨_, rfl⟩, .inr ⟨_, trivial, HJx3.out⟩⟩
        · subst huv
          have t5 : decide (u ≤ u) = true := decide_eq_true (by omega)
          have t6 : decide (u ≤ u) = true := decide_eq_true (by omega)
          have HT := Lib.hid (show T < u from NA.out.1)
          have hat : -1099511627777 ≤ u ∧ u ≤ 1099511627777 := ⟨by have := NA.out.2.2.2.1; omega, NA.out.2.2.2.2⟩
          have HC2 : Hid (cnt a u = I + 1 ∧ cnt b u = K + 1) := Lib.hid ⟨by have := cnt_hit GA.out HHa.out (by rw [HC.out.1, HU.out]); rw [this, HC.out.1], by have := cnt_hit GB.out HHb.out (by rw [HC.out.2, HV.out]); rw [this, HC.out.2]⟩
          have HR2 : Hid (Run a b (vals (pre ++ [⟨(u, odd (I + 1), odd (K + 1)), hat⟩])) u) := Lib.hid (by
            have := run_step GA.out GB.out HR.out HT.out hat.2 (fun _ => by rw [HC.out.1, HU.out]; omega) (fun _ => by rw [HC.out.2, HV.out]; omega)
            rw [HC2.out.1, HC2.out.2] at this
            simpa [vals] using this)
          have t7 : (((I : Int) + 1) % 2 == 1) = odd (I + 1) := by have := odd_int (I + 1); simpa using this
          have t8 : (((K : Int) + 1) % 2 == 1) = odd (K + 1) := by have := odd_int (K + 1); simpa using this
          gi_wp2
          refine wpIn_wide.2 ?_
          go_quiet ((first | (go_at_call 68; with_reducible exact Calls.quiet_of_same (PA2.out _)) | (go_at_call 68; with_reducible exact Calls.quiet_of_same (PB2.out _))))
          obtain ⟨w2, hw2⟩ : ∃ z, wr.drewN nq = z := ⟨_, rfl⟩
          have HB2' : Hid (Kx n₀ x y W w2) := Lib.hid (by rw [← hw2]; exact Kx.drewN HB.out _)
          have HJ2 : Hid (J pre w2) := Lib.hid (by rw [← hw2]; exact HJ.out _ _ _ none HJ0.out ⟨rfl, rfl, rfl, Nat.le_refl _, fun _ _ _ => rfl⟩ (fun r e => by cases e))
          rw [hw2]
          have dw1 := (HK.out _ HB2'.out).1
          have dw2 := (HK.out _ HB2'.out).2.1
          clear hw2 d1 d2
          have PA3 : Hid (∀ k, Calls Try.prog 68 #[.slice ao m1 c1, .int .i64 I] (w2.drewN k) fun e w' => e = .returned (.int .i64 u) ∧ w' = w2.drewN k) := Lib.hid (fun k => (PA.out _ (Kx.drewN HB2'.out k)).mono fun e w' h => ⟨h.1, h.2.symm⟩)
          have PB3 : Hid (∀ k, Calls Try.prog 68 #[.slice bo m2 c2, .int .i64 K] (w2.drewN k) fun e w' => e = .returned (.int .i64 u) ∧ w' = w2.drewN k) := Lib.hid (fun k => (PB.out _ (Kx.drewN HB2'.out k)).mono fun e w' h => ⟨h.1, h.2.symm⟩)
          gi_wp2
          refine wpIn_wide.2 ?_
          go_quiet ((first | (go_at_call 68; with_reducible exact Calls.quiet_of_same (PA3.out _)) | (go_at_call 68; with_reducible exact Calls.quiet_of_same (PB3.out _))))
          obtain ⟨z, hz⟩ : ∃ z, w2.drewN nq = z := ⟨_, rfl⟩
          have HBz : Hid (Kx n₀ x y W z) := Lib.hid (by rw [← hz]; exact Kx.drewN HB2'.out _)
          have HJz : Hid (J pre z) := Lib.hid (by rw [← hz]; exact HJ.out _ _ _ none HJ2.out ⟨rfl, rfl, rfl, Nat.le_refl _, fun _ _ _ => rfl⟩ (fun r e => by cases e))
          rw [hz]
          have dz1 := (HK.out _ HBz.out).1
          have dz2 := (HK.out _ HBz.out).2.1
          clear hz dw1 dw2
          obtain ⟨fn, tmps, assign, body, hy, hR⟩ := HY.out pre ⟨(u, odd (I + 1), odd (K + 1)), hat⟩ z HJz.out (by have := HL.out; have := HA2.out; have := HB2.out; omega)
          have HRr := Lib.hid hR
          clear hR
          dsimp only [encs] at hy
          gi_wp2_with (first | (refine ⟨trivial, ?_⟩; gi_at_call 68; with_reducible refine (callsIn_wide.2 (PA.out _ HBz.out)).mono ?_; rintro e z1 ⟨rfl, rfl⟩) | (refine ⟨trivial, ?_⟩; gi_at_call 68; with_reducible refine (callsIn_wide.2 (PB.out _ HBz.out)).mono ?_; rintro e z1 ⟨rfl, rfl⟩))
          refine HRr.out.mono ?_
          rintro e W3 (⟨rfl, hJ3, hk3⟩ | ⟨rfl, hJx3⟩)
          · have HJ3 := Lib.hid hJ3
            have HB3 := Lib.hid (HBz.out.trans hk3)
            have HL3 : Hid ((pre ++ [(⟨(u, odd (I + 1), odd (K + 1)), hat⟩ : EvB)]).length ≤ (I + 1) + (K + 1)) := Lib.hid (by have := HL.out; simp; omega)
            clear hy hJ3 hk3 HRr dz1 dz2
            gi_wp2
            go_roundw
            case rel => exact ⟨_, u, I + 1, K + 1, by go_num, by go_num, HC2, HR2, HL3, HJ3, HB3⟩
            case measure => simp [intOf]; have := HA2.out; have := HB2.out; omega
          · have HJx3 := Lib.hid hJx3
            clear hy hJx3 HRr dz1 dz2
            gi_wp2
            refine bodyPost_ret (results_none rfl _ _ _) rfl ?_
            exact ⟨⟨_, rfl⟩, .inr ⟨_, trivial, HJx3.out⟩⟩
        · have t5 : decide (u ≤ v) = false := decide_eq_false (by omega)
          have t6 : decide (v ≤ u) = true := decide_eq_true (by omega)
          have HT := Lib.hid (show T < v from NB.out.1)
          have hat : -1099511627777 ≤ v ∧ v ≤ 1099511627777 := ⟨by have := NB.out.2.2.2.1; omega, NB.out.2.2.2.2⟩
          have HC2 : Hid (cnt a v = I ∧ cnt b v = K + 1) := Lib.hid ⟨by have := cnt_miss GA.out (Int.le_of_lt HT.out) (fun q => by rw [HC.out.1, HU.out]; exact huv); rw [this, HC.out.1], by have := cnt_hit GB.out HHb.out (by rw [HC.out.2, HV.out]); rw [this, HC.out.2]⟩
          have HR2 : Hid (Run a b (vals (pre ++ [⟨(v, odd (I), odd (K + 1)), hat⟩])) v) := Lib.hid (by
            have := run_step GA.out GB.out HR.out HT.out hat.2 (fun _ => by rw [HC.out.1, HU.out]; omega) (fun _ => by rw [HC.out.2, HV.out]; omega)
            rw [HC2.out.1, HC2.out.2] at this
            simpa [vals] using this)
          have t7 : ((I : Int) % 2 == 1) = odd I := odd_int I
          have t8 : (((K : Int) + 1) % 2 == 1) = odd (K + 1) := by have := odd_int (K + 1); simpa using this
          gi_wp2
          refine wpIn_wide.2 ?_
          go_quiet ((first | (go_at_call 68; with_reducible exact Calls.quiet_of_same (PA2.out _)) | (go_at_call 68; with_reducible exact Calls.quiet_of_same (PB2.out _))))
          obtain ⟨w2, hw2⟩ : ∃ z, wr.drewN nq = z := ⟨_, rfl⟩
          have HB2' : Hid (Kx n₀ x y W w2) := Lib.hid (by rw [← hw2]; exact Kx.drewN HB.out _)
          have HJ2 : Hid (J pre w2) := Lib.hid (by rw [← hw2]; exact HJ.out _ _ _ none HJ0.out ⟨rfl, rfl, rfl, Nat.le_refl _, fun _ _ _ => rfl⟩ (fun r e => by cases e))
          rw [hw2]
          have dw1 := (HK.out _ HB2'.out).1
          have dw2 := (HK.out _ HB2'.out).2.1
          clear hw2 d1 d2
          have PA3 : Hid (∀ k, Calls Try.prog 68 #[.slice ao m1 c1, .int .i64 I] (w2.drewN k) fun e w' => e = .returned (.int .i64 u) ∧ w' = w2.drewN k) := Lib.hid (fun k => (PA.out _ (Kx.drewN HB2'.out k)).mono fun e w' h => ⟨h.1, h.2.symm⟩)
          have PB3 : Hid (∀ k, Calls Try.prog 68 #[.slice bo m2 c2, .int .i64 K] (w2.drewN k) fun e w' => e = .returned (.int .i64 v) ∧ w' = w2.drewN k) := Lib.hid (fun k => (PB.out _ (Kx.drewN HB2'.out k)).mono fun e w' h => ⟨h.1, h.2.symm⟩)
          gi_wp2
          refine wpIn_wide.2 ?_
          go_quiet ((first | (go_at_call 68; with_reducible exact Calls.quiet_of_same (PA3.out _)) | (go_at_call 68; with_reducible exact Calls.quiet_of_same (PB3.out _))))
          obtain ⟨z, hz⟩ : ∃ z, w2.drewN nq = z := ⟨_, rfl⟩
          have HBz : Hid (Kx n₀ x y W z) := Lib.hid (by rw [← hz]; exact Kx.drewN HB2'.out _)
          have HJz : Hid (J pre z) := Lib.hid (by rw [← hz]; exact HJ.out _ _ _ none HJ2.out ⟨rfl, rfl, rfl, Nat.le_refl _, fun _ _ _ => rfl⟩ (fun r e => by cases e))
          rw [hz]
          have dz1 := (HK.out _ HBz.out).1
          have dz2 := (HK.out _ HBz.out).2.1
          clear hz dw1 dw2
          obtain ⟨fn, tmps, assign, body, hy, hR⟩ := HY.out pre ⟨(v, odd (I), odd (K + 1)), hat⟩ z HJz.out (by have := HL.out; have := HA2.out; have := HB2.out; omega)
          have HRr := Lib.hid hR
          clear hR
          dsimp only [encs] at hy
          clear huv
          gi_wp2_with (first | (refine ⟨trivial, ?_⟩; gi_at_call 68; with_reducible refine (callsIn_wide.2 (PB.out _ HBz.out)).mono ?_; rintro e z1 ⟨rfl, rfl⟩))
          refine HRr.out.mono ?_
          rintro e W3 (⟨rfl, hJ3, hk3⟩ | ⟨rfl, hJx3⟩)
          · have HJ3 := Lib.hid hJ3
            have HB3 := Lib.hid (HBz.out.trans hk3)
            have HL3 : Hid ((pre ++ [(⟨(v, odd (I), odd (K + 1)), hat⟩ : EvB)]).length ≤ (I) + (K + 1)) := Lib.hid (by have := HL.out; simp; omega)
            clear hy hJ3 hk3 HRr dz1 dz2
            gi_wp2
            go_roundw
            case rel => exact ⟨_, v, I, K + 1, by go_num, by go_num, HC2, HR2, HL3, HJ3, HB3⟩
            case measure => simp [intOf]; have := HA2.out; have := HB2.out; omega
          · have HJx3 := Lib.hid hJx3
            clear hy hJx3 HRr dz1 dz2
            gi_wp2
            refine bodyPost_ret (results_none rfl _ _ _) rfl ?_
            exact ⟨⟨_, rfl⟩, .inr ⟨_, trivial, HJx3.out⟩⟩
      · have tk2 : ((K : Int) == (B2 : Int)) = true := by simp; omega
        have tk : ¬ (K : Int) < (B2 : Int) := by omega
        have HHa := Lib.hid hIa
        clear hIa
        rw [HC.out.1] at NA
        obtain ⟨u, hu⟩ : ∃ z, bd a I = z := ⟨_, rfl⟩
        rw [hu] at NA PA
        have HU := Lib.hid hu
        clear hu
        have HT := Lib.hid (show T < u from NA.out.1)
        have hat : -1099511627777 ≤ u ∧ u ≤ 1099511627777 := ⟨by have := NA.out.2.2.2.1; omega, NA.out.2.2.2.2⟩
        have HC2 : Hid (cnt a u = I + 1 ∧ cnt b u = K) := Lib.hid ⟨by have := cnt_hit GA.out HHa.out (by rw [HC.out.1, HU.out]); rw [this, HC.out.1], by have := cnt_miss GB.out (Int.le_of_lt HT.out) (fun q => by have := HC.out.2; have := LB.out; have := HB2.out; omega); rw [this, HC.out.2]⟩
        have HR2 : Hid (Run a b (vals (pre ++ [⟨(u, odd (I + 1), odd (K)), hat⟩])) u) := Lib.hid (by
          have := run_step GA.out GB.out HR.out HT.out hat.2 (fun _ => by rw [HC.out.1, HU.out]; omega) (fun _ => by have := HC.out.2; have := LB.out; have := HB2.out; omega)
          rw [HC2.out.1, HC2.out.2] at this
          simpa [vals] using this)
        have t7 : (((I : Int) + 1) % 2 == 1) = odd (I + 1) := by have := odd_int (I + 1); simpa using this
        have t8 : ((K : Int) % 2 == 1) = odd K := odd_int K
        gi_wp2
        refine wpIn_wide.2 ?_
        go_quiet (fail)
        obtain ⟨w2, hw2⟩ : ∃ z, wr.drewN nq = z := ⟨_, rfl⟩
        have HB2' : Hid (Kx n₀ x y W w2) := Lib.hid (by rw [← hw2]; exact Kx.drewN HB.out _)
        have HJ2 : Hid (J pre w2) := Lib.hid (by rw [← hw2]; exact HJ.out _ _ _ none HJ0.out ⟨rfl, rfl, rfl, Nat.le_refl _, fun _ _ _ => rfl⟩ (fun r e => by cases e))
        rw [hw2]
        have dw1 := (HK.out _ HB2'.out).1
        have dw2 := (HK.out _ HB2'.out).2.1
        clear hw2 d1 d2
        have PA3 : Hid (∀ k, Calls Try.prog 68 #[.slice ao m1 c1, .int .i64 I] (w2.drewN k) fun e w' => e = .returned (.int .i64 u) ∧ w' = w2.drewN k) := Lib.hid (fun k => (PA.out _ (Kx.drewN HB2'.out k)).mono fun e w' h => ⟨h.1, h.2.symm⟩)
        gi_wp2
        refine wpIn_wide.2 ?_
        go_quiet (fail)
        obtain ⟨z, hz⟩ : ∃ z, w2.drewN nq = z := ⟨_, rfl⟩
        have HBz : Hid (Kx n₀ x y W z) := Lib.hid (by rw [← hz]; exact Kx.drewN HB2'.out _)
        have HJz : Hid (J pre z) := Lib.hid (by rw [← hz]; exact HJ.out _ _ _ none HJ2.out ⟨rfl, rfl, rfl, Nat.le_refl _, fun _ _ _ => rfl⟩ (fun r e => by cases e))
        rw [hz]
        have dz1 := (HK.out _ HBz.out).1
        have dz2 := (HK.out _ HBz.out).2.1
        clear hz dw1 dw2
        obtain ⟨fn, tmps, assign, body, hy, hR⟩ := HY.out pre ⟨(u, odd (I + 1), odd (K)), hat⟩ z HJz.out (by have := HL.out; have := HA2.out; have := HB2.out; omega)
        have HRr := Lib.hid hR
        clear hR
        dsimp only [encs] at hy
        gi_wp2_with (first | (refine ⟨trivial, ?_⟩; gi_at_call 68; with_reducible refine (callsIn_wide.2 (PA.out _ HBz.out)).mono ?_; rintro e z1 ⟨rfl, rfl⟩))
        refine HRr.out.mono ?_
        rintro e W3 (⟨rfl, hJ3, hk3⟩ | ⟨rfl, hJx3⟩)
        · have HJ3 := Lib.hid hJ3
          have HB3 := Lib.hid (HBz.out.trans hk3)
          have HL3 : Hid ((pre ++ [(⟨(u, odd (I + 1), odd (K)), hat⟩ : EvB)]).length ≤ (I + 1) + (K)) := Lib.hid (by have := HL.out; simp; omega)
          clear hy hJ3 hk3 HRr dz1 dz2
          gi_wp2
          go_roundw
          case rel => exact ⟨_, u, I + 1, K, by go_num, by go_num, HC2, HR2, HL3, HJ3, HB3⟩
          case measure => simp [intOf]; have := HA2.out; have := HB2.out; omega
        · have HJx3 := Lib.hid hJx3
          clear hy hJx3 HRr dz1 dz2
          gi_wp2
          refine bodyPost_ret (results_none rfl _ _ _) rfl ?_
          exact ⟨⟨_, rfl⟩, .inr ⟨_, trivial, HJx3.out⟩⟩
    · by_cases hk2 : K < B2
      · have ti2 : ((I : Int) == (A2 : Int)) = true := by simp; omega
        have ti : ¬ (I : Int) < (A2 : Int) := by omega
        have tk : (K : Int) < (B2 : Int) := by omega
        have tk2 : ((K : Int) == (B2 : Int)) = false := by simp; omega
        have hKb : cnt b T < 2 * b.length := by have := HC.out.2; have := LB.out; have := HB2.out; omega
        have NB := Lib.hid (bd_next GB.out T hKb)
        have PB := Lib.hid (BB.out K (by have := HB2.out; omega))
        have HHb := Lib.hid hKb
        clear hKb
        rw [HC.out.2] at NB
        obtain ⟨v, hv⟩ : ∃ z, bd b K = z := ⟨_, rfl⟩
        rw [hv] at NB PB
        have HV := Lib.hid hv
        clear hv
        have HT := Lib.hid (show T < v from NB.out.1)
        have hat : -1099511627777 ≤ v ∧ v ≤ 1099511627777 := ⟨by have := NB.out.2.2.2.1; omega, NB.out.2.2.2.2⟩
        have HC2 : Hid (cnt a v = I ∧ cnt b v = K + 1) := Lib.hid ⟨by have := cnt_miss GA.out (Int.le_of_lt HT.out) (fun q => by have := HC.out.1; have := LA.out; have := HA2.out; omega); rw [this, HC.out.1], by have := cnt_hit GB.out HHb.out (by rw [HC.out.2, HV.out]); rw [this, HC.out.2]⟩
        have HR2 : Hid (Run a b (vals (pre ++ [⟨(v, odd (I), odd (K + 1)), hat⟩])) v) := Lib.hid (by
          have := run_step GA.out GB.out HR.out HT.out hat.2 (fun _ => by have := HC.out.1; have := LA.out; have := HA2.out; omega) (fun _ => by rw [HC.out.2, HV.out]; omega)
          rw [HC2.out.1, HC2.out.2] at this
          simpa [vals] using this)
        have t7 : ((I : Int) % 2 == 1) = odd I := odd_int I
        have t8 : (((K : Int) + 1) % 2 == 1) = odd (K + 1) := by have := odd_int (K + 1); simpa using this
        gi_wp2
        refine wpIn_wide.2 ?_
        go_quiet (fail)
        obtain ⟨w2, hw2⟩ : ∃ z, wr.drewN nq = z := ⟨_, rfl⟩
        have HB2' : Hid (Kx n₀ x y W w2) := Lib.hid (by rw [← hw2]; exact Kx.drewN HB.out _)
        have HJ2 : Hid (J pre w2) := Lib.hid (by rw [← hw2]; exact HJ.out _ _ _ none HJ0.out ⟨rfl, rfl, rfl, Nat.le_refl _, fun _ _ _ => rfl⟩ (fun r e => by cases e))
        rw [hw2]
        have dw1 := (HK.out _ HB2'.out).1
        have dw2 := (HK.out _ HB2'.out).2.1
        clear hw2 d1 d2
        have PB3 : Hid (∀ k, Calls Try.prog 68 #[.slice bo m2 c2, .int .i64 K] (w2.drewN k) fun e w' => e = .returned (.int .i64 v) ∧ w' = w2.drewN k) := Lib.hid (fun k => (PB.out _ (Kx.drewN HB2'.out k)).mono fun e w' h => ⟨h.1, h.2.symm⟩)
        gi_wp2
        refine wpIn_wide.2 ?_
        go_quiet (fail)
        obtain ⟨z, hz⟩ : ∃ z, w2.drewN nq = z := ⟨_, rfl⟩
        have HBz : Hid (Kx n₀ x y W z) := Lib.hid (by rw [← hz]; exact Kx.drewN HB2'.out _)
        have HJz : Hid (J pre z) := Lib.hid (by rw [← hz]; exact HJ.out _ _ _ none HJ2.out ⟨rfl, rfl, rfl, Nat.le_refl _, fun _ _ _ => rfl⟩ (fun r e => by cases e))
        rw [hz]
        have dz1 := (HK.out _ HBz.out).1
        have dz2 := (HK.out _ HBz.out).2.1
        clear hz dw1 dw2
        obtain ⟨fn, tmps, assign, body, hy, hR⟩ := HY.out pre ⟨(v, odd (I), odd (K + 1)), hat⟩ z HJz.out (by have := HL.out; have := HA2.out; have := HB2.out; omega)
        have HRr := Lib.hid hR
        clear hR
        dsimp only [encs] at hy
        gi_wp2_with (first | (refine ⟨trivial, ?_⟩; gi_at_call 68; with_reducible refine (callsIn_wide.2 (PB.out _ HBz.out)).mono ?_; rintro e z1 ⟨rfl, rfl⟩))
        refine HRr.out.mono ?_
        rintro e W3 (⟨rfl, hJ3, hk3⟩ | ⟨rfl, hJx3⟩)
        · have HJ3 := Lib.hid hJ3
          have HB3 := Lib.hid (HBz.out.trans hk3)
          have HL3 : Hid ((pre ++ [(⟨(v, odd (I), odd (K + 1)), hat⟩ : EvB)]).length ≤ (I) + (K + 1)) := Lib.hid (by have := HL.out; simp; omega)
          clear hy hJ3 hk3 HRr dz1 dz2
          gi_wp2
          go_roundw
          case rel => exact ⟨_, v, I, K + 1, by go_num, by go_num, HC2, HR2, HL3, HJ3, HB3⟩
          case measure => simp [intOf]; have := HA2.out; have := HB2.out; omega
        · have HJx3 := Lib.hid hJx3
          clear hy hJx3 HRr dz1 dz2
          gi_wp2
          refine bodyPost_ret (results_none rfl _ _ _) rfl ?_
          exact ⟨⟨_, rfl⟩, .inr ⟨_, trivial, HJx3.out⟩⟩
      · have ti : ¬ (I : Int) < (A2 : Int) := by omega
        have tk : ¬ (K : Int) < (B2 : Int) := by omega
        have HE : Hid (cnt a T = 2 * a.length ∧ cnt b T = 2 * b.length) := Lib.hid ⟨by have := HC.out.1; have := LA.out; have := HA2.out; omega, by have := HC.out.2; have := LB.out; have := HB2.out; omega⟩
        gi_wp2
        go_end0
        exact ⟨⟨_, rfl⟩, .inl ⟨pre, ⟨T, HR.out, HE.out.1, HE.out.2⟩, HJ0.out⟩⟩
end Go.Proofs.Ythjpnnggghfepaa
