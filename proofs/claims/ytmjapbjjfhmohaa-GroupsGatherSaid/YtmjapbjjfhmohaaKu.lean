/- M10, M11, R2, C7, H1 in one. -/
import Derived.Test.YtmjapbjjfhmohaaKs
import Derived.Test.YtmjapbjjfhmohaaKk
import Derived.BigQuiet
import Derived.Test.YtmjapbjjfhmohaaKt
import Derived.Test.YtmjapbjjfhmohaaKo
import Derived.Test.YtmjapbjjfhmohaaKp
namespace Go.Proofs.Ytmjapbjjfhmohaa
set_option linter.unusedVariables false
set_option linter.unusedSimpArgs false
open Go.ChangeShapes Go.WideShapes Go.ChangeAt Go.RowKit
theorem quiet_cls {id : Nat} {P : Program} {W : World} {Q : Exit → Act → World → Prop} {a : Act} {w : World} {lst : List Oper} (hm : P.follows .mixedOrders = true) (hB : Region.lexB .any lst.toArray = true) (hC : Below W.heap.size W w)
    (h : wpQuiet P lst.toArray (fun w' => ∃ p : Cls W, w' = p.w) (fun a' => ∀ w', (∃ p : Cls W, w' = p.w) → Q .normal a' w') lst a) : (Code.region id lst.toArray true).wp P Q a w :=
  wp_region_quiet (C := fun w' => ∃ p : Cls W, w' = p.w) hm hB ⟨⟨w.drew, hC.drew⟩, rfl⟩ (by simpa using h)
theorem cls_callP {P : Program} {W : World} {p : Cls W} {f : FuncId} {args : Array Value} {v : Value} (h : Calls P f args p.w fun e w' => e = .returned v ∧ Below p.w.heap.size p.w w') : Calls P f args p.w fun e w'' => e = .returned v ∧ ∃ q : Cls W, w'' = q.w :=
  h.mono fun _ w'' ⟨he, hb⟩ => ⟨he, ⟨w'', p.h.trans (hb.mono p.h.size)⟩, rfl⟩
theorem turn_is (F : Fv) (w : World) (hF : F.At w) (ok : F.Ok) (d : Nat) (hd : IsTurn F.cs F.P F.N d) : Calls Try.prog 35 #[F.v] w fun e w' => e = .returned (.int .i64 (d : Int)) ∧ Below w.heap.size w w' :=
  (turn_any F w hF ok).mono fun e w' ⟨d', he, h1, h2⟩ => ⟨by rw [he, isTurn_unique hd h1], h2⟩
set_option maxHeartbeats 2000000 in
theorem is_right (F : Fv) (w : World) (hF : F.At w) (ok : F.Ok) (hr19 : ∀ W, F.At W → Calls Try.prog 18 #[F.v] W fun e w' => e = .returned (.int .i64 0) ∧ Below W.heap.size W w') (r : Bool) (hr : r = true ↔ IsTurn F.cs F.P F.N F.cn ∧ ∀ o ∈ F.os, o.2 ≠ cg F.cs F.P F.N o.1) :
    Calls Try.prog 15 #[F.v] w fun e w' => e = .returned (.bool r) ∧ Below w.heap.size w w' := by
  obtain ⟨d, hd⟩ := isTurn_ex (cs := F.cs) (P := F.P) (N := F.N) (meas_full ok.meas hF.core.len)
  have hN : F.N = (F.cn : Int) := by
    rcases ok.meas with ⟨h1, _, h2⟩ | ⟨_, h, _⟩ <;> omega
  have hdN : (d : Int) = F.N ↔ IsTurn F.cs F.P F.N F.cn := by
    rw [hN]
    constructor
    · intro h
      have : d = F.cn := by omega
      rw [hN] at hd
      rw [← this]; exact this ▸ hd
    · intro h
      rw [hN] at hd
      rw [isTurn_unique hd h]
  obtain ⟨r2, hr2⟩ : ∃ r : Bool, r = true ↔ ∃ o ∈ F.os, o.2 = cg F.cs F.P F.N o.1 := by classical exact ⟨decide _, decide_eq_true_iff⟩
  have HR := Lib.hid (hr.trans (and_congr hdN.symm (⟨fun h ⟨o, ho, he⟩ => h o ho he, fun h o ho he => h ⟨o, ho, he⟩⟩ : (∀ o ∈ F.os, o.2 ≠ cg F.cs F.P F.N o.1) ↔ ¬ ∃ o ∈ F.os, o.2 = cg F.cs F.P F.N o.1)))
  have HR2 := Lib.hid hr2
  have H19 := Lib.hid hr19
  have HTU := Lib.hid (fun W (h : F.At W) => turn_is F W h ok d hd)
  have hdle : (d : Int) ≤ 9223372036854775807 := by
    rcases hd with ⟨h, _⟩ | ⟨⟨l, hl, _⟩, h, _⟩
    · omega
    · rcases meas_full ok.meas hF.core.len with q | q
      · have := turn_le q h; have := ok.cn; have := hF.core.len; omega
      · rw [q] at hl; cases hl
  have HCU := Lib.hid (fun (W : World) (b : Nat) (h : Fbox F w W b) => containsUsual_any F w W b h ok r2 hr2)
  have hF0 := hF
  clear hr hr2 hr19 hd hdN ok hN
  obtain ⟨P, N, co, cn, cc, oo, on, oc, cs, os⟩ := F
  obtain ⟨b, hb⟩ : ∃ b, w.heap.size = b := ⟨_, rfl⟩
  obtain ⟨wb, hwb⟩ : ∃ wb, w.alloc (.cells #[.int .i64 P, .int .i64 N, .slice co cn cc, .slice oo on oc] 25) = wb := ⟨_, rfl⟩
  have HBB : Hid (Fbox ⟨P, N, co, cn, cc, oo, on, oc, cs, os⟩ w wb b) := Lib.hid (by rw [← hwb, ← hb]; exact fbox_new hF0)
  have HR : Hid (r = true ↔ (d : Int) = N ∧ ¬ ∃ o ∈ os, o.2 = cg cs P N o.1) := HR
  have H19 : Hid (∀ p : Cls wb, Calls Try.prog 18 #[.agg #[.int .i64 P, .int .i64 N, .slice co cn cc, .slice oo on oc]] p.w fun e w' => e = .returned (.int .i64 0) ∧ Below p.w.heap.size p.w w') := Lib.hid (fun p => H19.out _ (HBB.out.at_.keep p.h))
  have HTU : Hid (∀ p : Cls wb, Calls Try.prog 35 #[.agg #[.int .i64 P, .int .i64 N, .slice co cn cc, .slice oo on oc]] p.w fun e w' => e = .returned (.int .i64 (d : Int)) ∧ Below p.w.heap.size p.w w') := Lib.hid (fun p => HTU.out _ (HBB.out.at_.keep p.h))
  have HCU : Hid (∀ (W : World) (b : Nat), Fbox ⟨P, N, co, cn, cc, oo, on, oc, cs, os⟩ w W b → Calls Try.prog 36 #[.slice oo on oc, .func (.func 37) #[] #[.pointer (some ⟨b, 0, none⟩)]] W fun e w' => e = .returned (.bool r2) ∧ Below W.heap.size W w') := HCU
  clear hF hF0
  show Calls Try.prog 15 #[.agg #[.int .i64 P, .int .i64 N, .slice co cn cc, .slice oo on oc]] w _
  go_enter Try.func15, Try.ntmps15
  go_upto_region 1 with fail
  clear hwb hb
  have e0 := fun p : Cls wb => cell_keep HBB.out.c0 p.h
  have e1 := fun p : Cls wb => cell_keep HBB.out.c1 p.h
  have e2 := fun p : Cls wb => cell_keep HBB.out.c2 p.h
  have e3 := fun p : Cls wb => cell_keep HBB.out.c3 p.h
  dsimp only at e0 e1 e2 e3
  by_cases hdn : (d : Int) = N
  · have t1 : ((d : Int) != N) = false := by simp; exact hdn
    have HF : Hid ((!r2) = r) := Lib.hid (by
      cases r <;> cases r2
      · exact absurd (HR.out.2 ⟨hdn, fun h => by have := HR2.out.2 h; cases this⟩) (by simp)
      · rfl
      · rfl
      · exact absurd (HR2.out.1 rfl) (HR.out.1 rfl).2)
    clear hdn
    refine quiet_cls (W := wb) (by kernel_rfl) (by kernel_rfl) (Below.refl _ _) ?_
    repeat (go_big_quiet_step (first | exact cls_callP (H19.out _) | exact cls_callP (HTU.out _)))
    refine wpQuiet_nil ?_
    rintro w4 ⟨⟨_, hw4⟩, rfl⟩
    try dsimp only
    have HB4 := Lib.hid (HBB.out.keep hw4)
    clear hw4 e0 e1 e2 e3
    have e3 : w4.cell? ⟨b, 3, none⟩ = some (.slice oo on oc) := HB4.out.c3
    go_wp2_with fail
    (with_reducible refine (HCU.out _ _ HB4.out).mono ?_)
    rintro e w5 ⟨rfl, q5⟩
    have HB5 := Lib.hid (HB4.out.keep q5)
    clear q5 e3
    go_wp2
    go_returns
    exact ⟨ret_bool HF.out, HB5.out.bw⟩
  · have t1 : ((d : Int) != N) = true := by simp; exact hdn
    have HF : Hid (false = r) := Lib.hid (by
      cases r
      · rfl
      · exact absurd (HR.out.1 rfl).1 hdn)
    clear hdn
    refine quiet_cls (W := wb) (by kernel_rfl) (by kernel_rfl) (Below.refl _ _) ?_
    repeat (go_big_quiet_step (first | exact cls_callP (H19.out _) | exact cls_callP (HTU.out _)))
    refine wpQuiet_nil ?_
    rintro w4 ⟨⟨_, hw4⟩, rfl⟩
    try dsimp only
    have HB4 := Lib.hid (HBB.out.keep hw4)
    clear hw4 e0 e1 e2 e3
    go_wp2
    go_returns
    exact ⟨ret_bool HF.out, HB4.out.bw⟩
/-- A form in memory of a call's own. -/
structure Fv.Own (G : Fv) (w : World) (B : Nat) : Prop where
  co : CoOwn w B (.slice G.co G.cn G.cc) G.cn G.cs
  od : OdOwn w B (.slice G.oo G.on G.oc) G.on G.os
  p1 : -9223372036854775808 ≤ G.P
  p2 : G.P ≤ 9223372036854775807
  n1 : -9223372036854775808 ≤ G.N
  n2 : G.N ≤ 9223372036854775807
  short : (∀ l ∈ G.cs, l.length ≤ 10000000000000) ∧ ∀ o ∈ G.os, o.2.length ≤ 10000000000000
theorem Fv.Own.at_ {G : Fv} {w : World} {B : Nat} (h : G.Own w B) : G.At w := by
  obtain ⟨a1, c1, e1, x1⟩ := h.co.vs
  obtain ⟨a2, c2, e2, x2⟩ := h.od.vs
  cases e1
  cases e2
  exact ⟨h.p1, h.p2, h.n1, h.n2, x1, x2, h.short⟩
theorem Fv.Own.keep {G : Fv} {w w' : World} {B : Nat} (h : G.Own w B) (k : Below w.heap.size w w') : G.Own w' B := ⟨h.co.keep k, h.od.keep k, h.p1, h.p2, h.n1, h.n2, h.short⟩
theorem Fv.Own.mono {G : Fv} {w : World} {B C : Nat} (h : G.Own w B) (k : C ≤ B) : G.Own w C := ⟨h.co.mono k, h.od.mono k, h.p1, h.p2, h.n1, h.n2, h.short⟩
theorem Fv.Own.row {G : Fv} {w w' : World} {B q : Nat} (h : G.Own w B) (hg : w.grownBy w' (some q)) (k : q < B) : G.Own w' B :=
  ⟨h.co.grown hg (fun q e => .inl (by cases e; exact k)) (fun q e => .inl (by cases e; exact k)), h.od.grown hg (fun q e => .inl (by cases e; exact k)) (fun q e => .inl (by cases e; exact k)), h.p1, h.p2, h.n1, h.n2, h.short⟩
theorem form_can (F : Fv) (w : World) (hF : F.At w) (ok : F.Ok) (rt : F.Rt) (hr : ∀ W, F.At W → Calls Try.prog 18 #[F.v] W fun e w' => e = .returned (.int .i64 0) ∧ Below W.heap.size W w') :
    Calls Try.prog 16 #[F.v] w fun e w' => ∃ G : Fv, e = .returned G.v ∧ IsCan F G ∧ G.Own w' w.heap.size ∧ Below w.heap.size w w' := by
  refine (form_right F w hF ok hr).mono ?_
  rintro e w' ⟨d, vc, vo, rfl, hT, hO, hB⟩
  obtain ⟨h1, h2⟩ := hO.out
  obtain ⟨a1, c1, rfl, x1⟩ := h1.vs
  obtain ⟨a2, c2, rfl, x2⟩ := h2.vs
  have hc : IsCan F ⟨canP F.P F.N d, d, a1, d, c1, a2, (canOs F).length, c2, F.cs.take d, canOs F⟩ := ⟨hT.out, rfl, rfl, rfl, rfl⟩
  have hm := meas_P (can_rt hc rt hF.core.len).meas
  have hd : d ≤ 1000000 := by
    rcases hT.out with ⟨h, _⟩ | ⟨⟨l, hl, _⟩, h, _⟩
    · omega
    · rcases meas_full ok.meas hF.core.len with q | q
      · have := turn_le q h; have := ok.cn; have := hF.core.len; omega
      · rw [q] at hl; cases hl
  refine ⟨_, rfl, hc, ⟨h1, h2, ?_, ?_, ?_, ?_, (fun l hl => hF.short.1 l (List.mem_of_mem_take hl)), (fun o ho => hF.short.2 o (List.mem_filter.1 ho).1)⟩, hB.out⟩
  · show -9223372036854775808 ≤ canP F.P F.N d
    have : 0 ≤ canP F.P F.N d := hm.1
    omega
  · show canP F.P F.N d ≤ 9223372036854775807
    have : canP F.P F.N d ≤ 1099511627776 := hm.2
    omega
  · show -9223372036854775808 ≤ (d : Int)
    omega
  · show (d : Int) ≤ 9223372036854775807
    omega
theorem isCan_unique {F G H : Fv} (h : IsCan F G) (k : IsCan F H) : G.P = H.P ∧ G.N = H.N ∧ G.cs = H.cs ∧ G.os = H.os := by
  have e := isTurn_unique h.turn k.turn
  exact ⟨by rw [h.P, k.P, e], by rw [h.N, k.N, e], by rw [h.cs, k.cs, e], by rw [h.os, k.os]⟩
/-- Two forms have the same canonical form. -/
def CanEq (F H : Fv) : Prop := ∀ G K, IsCan F G → IsCan H K → G.P = K.P ∧ G.N = K.N ∧ G.cs = K.cs ∧ G.os = K.os
theorem canEq_iff {F H G K : Fv} (h : IsCan F G) (k : IsCan H K) : CanEq F H ↔ G.P = K.P ∧ G.N = K.N ∧ G.cs = K.cs ∧ G.os = K.os := by
  refine ⟨fun q => q G K h k, fun q G' K' h' k' => ?_⟩
  obtain ⟨a1, a2, a3, a4⟩ := isCan_unique h h'
  obtain ⟨b1, b2, b3, b4⟩ := isCan_unique k k'
  obtain ⟨q1, q2, q3, q4⟩ := q
  exact ⟨by rw [← a1, ← b1, q1], by rw [← a2, ← b2, q2], by rw [← a3, ← b3, q3], by rw [← a4, ← b4, q4]⟩

theorem tell31_any (F : Fv) (j : Int) (bf : Nat) (w : World) (hF : F.At w) (ok : F.Ok) (hb : w.heap[bf]? = some (.cells F.box 25 (0, 0))) (h1 : -9223372036854775808 ≤ j) (h2 : j ≤ 9223372036854775807) :
    Calls Try.prog 31 #[.int .i64 j, .pointer (some ⟨bf, 0, none⟩)] w fun e w' => ∃ (v : Value) (k : Int), e = .returned (.tuple #[v, .int .i64 k]) ∧ Hid (Below w.heap.size w w') ∧ Hid ((Fit (cg F.cs F.P F.N j) ∧ k = 0 ∧ w'.ownsRow w.heap.size 50 2 v (cg F.cs F.P F.N j).length (spCells (cg F.cs F.P F.N j))) ∨ (¬ Fit (cg F.cs F.P F.N j) ∧ k = 20 ∧ v = .slice none 0 0)) := by
  have HR := Lib.hid (raw_any F j w hF ok h1 h2)
  obtain ⟨P, N, co, cn, cc, oo, on, oc, cs, os⟩ := F
  have c0 := cell_block hb 0
  have c1 := cell_block hb 1
  have c2 := cell_block hb 2
  have c3 := cell_block hb 3
  have HR : Hid (Calls Try.prog 32 #[.agg #[.int .i64 P, .int .i64 N, .slice co cn cc, .slice oo on oc], .int .i64 j] w fun e w' => ∃ (v : Value) (k : Int), e = .returned (.tuple #[v, .int .i64 k]) ∧ Below w.heap.size w w' ∧ Hid ((Fit (cg cs P N j) ∧ k = 0 ∧ w'.ownsRow w.heap.size 50 2 v (cg cs P N j).length (spCells (cg cs P N j))) ∨ (¬ Fit (cg cs P N j) ∧ k = 20 ∧ v = .slice none 0 0))) := HR
  clear hF ok hb
  go_enter Try.func31, Try.ntmps31
  go_wp2_with fail
  (with_reducible refine HR.out.mono ?_)
  rintro e w1 ⟨v, k, rfl, q, hv⟩
  have HQ := Lib.hid q
  clear q c0 c1 c2 c3
  go_wp2
  go_returns
  exact ⟨v, k, rfl, HQ, hv⟩
theorem inr_any (i : Int) (w : World) (r : Bool) (hr : r = true ↔ InR i) : Calls Try.prog 29 #[.int .i64 i] w fun e w' => e = .returned (.bool r) ∧ w = w' := by
  have HR : Hid (r = true ↔ -1099511627776 ≤ i ∧ i ≤ 1099511627776) := Lib.hid hr
  clear hr
  by_cases a : -1099511627776 ≤ i
  · by_cases b : i ≤ 1099511627776
    · obtain rfl : r = true := HR.out.2 ⟨a, b⟩
      go_enter Try.func29, Try.ntmps29
      go_wp2
      go_returns
      exact ⟨by simp [a, b], rfl⟩
    · obtain rfl : r = false := by
        cases r
        · rfl
        · exact absurd (HR.out.1 rfl).2 b
      go_enter Try.func29, Try.ntmps29
      go_wp2
      go_returns
      exact ⟨by simp [a, b], rfl⟩
  · obtain rfl : r = false := by
      cases r
      · rfl
      · exact absurd (HR.out.1 rfl).1 a
    go_enter Try.func29, Try.ntmps29
    go_wp2
    go_returns
    exact ⟨by simp [a], rfl⟩
theorem heap_keep' {w w' : World} {b : Nat} {o : Obj} (h : w.heap[b]? = some o) (k : Below w.heap.size w w') : w'.heap[b]? = some o := (k.block b (Array.getElem?_eq_some_iff.1 h).1).trans h
theorem block_free' {w : World} {b : Nat} {c : Array Value} {t : TypeId} (h : w.heap[b]? = some (.cells c t (0, 0))) (k : Nat) : w.frozen? ⟨b, k, none⟩ = false := by
  unfold World.frozen?; rw [h]; simp
theorem done_put {w : World} {b : Nat} {x0 x1 x2 x3 y0 y1 y2 y3 : Value} (h : w.heap[b]? = some (.cells #[x0, x1, x2, x3] 25 (0, 0))) :
    ((((w.setCell ⟨b, 0, none⟩ y0).setCell ⟨b, 1, none⟩ y1).setCell ⟨b, 2, none⟩ y2).setCell ⟨b, 3, none⟩ y3).heap[b]? = some (.cells #[y0, y1, y2, y3] 25 (0, 0)) := put_four h y0 y1 y2 y3
set_option maxHeartbeats 1000000 in
theorem done_ok (F : Fv) (w : World) (hF : F.At w) (hs : F.Mid) (rt : F.Rt) :
    Calls Try.prog 27 #[F.v] w fun e w' => ∃ G : Fv, e = .returned (.tuple #[G.v, .int .i64 0]) ∧ Hid (IsCan F G) ∧ Hid (G.Own w' w.heap.size) ∧ Hid (Below w.heap.size w w') := by
  have ok := rt.okm hs
  have HR := Lib.hid (fun W (h : F.At W) => right_mid F W h hs true ⟨fun _ => rt, fun _ => rfl⟩)
  have HC := Lib.hid (fun W (h : F.At W) => form_can F W h ok rt (fun V hV => right_mid F V hV hs true ⟨fun _ => rt, fun _ => rfl⟩))
  have HFA := Lib.hid hF
  obtain ⟨P, N, co, cn, cc, oo, on, oc, cs, os⟩ := F
  obtain ⟨b, hb⟩ : ∃ b, w.heap.size = b := ⟨_, rfl⟩
  obtain ⟨w1, hw1⟩ : ∃ z, (w.alloc (.cells #[.int .i64 P, .int .i64 N, .slice co cn cc, .slice oo on oc] 25)).alloc (.cells #[.int .i64 0, .int .i64 0, .slice none 0 0, .slice none 0 0] 25) = z := ⟨_, rfl⟩
  have KB : Hid (Below w.heap.size w w1) := Lib.hid (by rw [← hw1]; exact ((Below.refl _ w).alloc (Nat.le_refl _) _).alloc (by simp) _)
  have B1 : Hid (w1.heap[b]? = some (.cells #[.int .i64 P, .int .i64 N, .slice co cn cc, .slice oo on oc] 25 (0, 0))) := Lib.hid (by rw [← hw1]; exact (Below.heap_alloc _ _ _ (by simp; omega)).trans (heap_at hb))
  have B2 : Hid (w1.heap[b + 1]? = some (.cells #[.int .i64 0, .int .i64 0, .slice none 0 0, .slice none 0 0] 25 (0, 0))) := Lib.hid (by rw [← hw1]; exact heap_at (by simp; omega))
  have HR : Hid (∀ W, Fv.At ⟨P, N, co, cn, cc, oo, on, oc, cs, os⟩ W → Calls Try.prog 18 #[.agg #[.int .i64 P, .int .i64 N, .slice co cn cc, .slice oo on oc]] W fun e w' => e = .returned (.int .i64 0) ∧ Below W.heap.size W w') := HR
  have HC : Hid (∀ W, Fv.At ⟨P, N, co, cn, cc, oo, on, oc, cs, os⟩ W → Calls Try.prog 16 #[.agg #[.int .i64 P, .int .i64 N, .slice co cn cc, .slice oo on oc]] W fun e w' => ∃ G : Fv, e = .returned G.v ∧ IsCan ⟨P, N, co, cn, cc, oo, on, oc, cs, os⟩ G ∧ G.Own w' W.heap.size ∧ Below W.heap.size W w') := HC
  have HBW : Hid (w.heap.size ≤ b ∧ b + 1 < w1.heap.size) := Lib.hid ⟨by omega, (Array.getElem?_eq_some_iff.1 B2.out).1⟩
  clear hF hs rt ok
  show Calls Try.prog 27 #[.agg #[.int .i64 P, .int .i64 N, .slice co cn cc, .slice oo on oc]] w _
  go_enter Try.func27, Try.ntmps27
  go_upto_region 1 with fail
  try rw [hw1]
  try rw [hb]
  clear hw1 hb
  have c0 := cell_block B1.out 0
  have c1 := cell_block B1.out 1
  have c2 := cell_block B1.out 2
  have c3 := cell_block B1.out 3
  go_wp2_with fail
  (with_reducible refine (HR.out _ (HFA.out.keep KB.out)).mono ?_)
  rintro e w2 ⟨rfl, q⟩
  have KB2 := Lib.hid (KB.out.trans (q.mono KB.out.size))
  have B1b := Lib.hid (heap_keep' B1.out q)
  have B2b := Lib.hid (heap_keep' B2.out q)
  have HBW2 : Hid (b + 1 < w2.heap.size) := Lib.hid (Nat.lt_of_lt_of_le HBW.out.2 q.size)
  clear q c0 c1 c2 c3 KB B1 B2
  have c0 := cell_block B1b.out 0
  have c1 := cell_block B1b.out 1
  have c2 := cell_block B1b.out 2
  have c3 := cell_block B1b.out 3
  go_wp2_with fail
  (with_reducible refine (HC.out _ (HFA.out.keep KB2.out)).mono ?_)
  rintro e w3 ⟨G, rfl, hi, ho, q⟩
  have HI := Lib.hid hi
  have HO := Lib.hid ho
  have KB3 := Lib.hid (KB2.out.trans (q.mono KB2.out.size))
  have B2c := Lib.hid (heap_keep' B2b.out q)
  clear q hi ho c0 c1 c2 c3 KB2 B1b B2b
  obtain ⟨GP, GN, gco, gcn, gcc, goo, gon, goc, gcs, gos⟩ := G
  have r0 := cell_block B2c.out 0
  have r1 := cell_block B2c.out 1
  have r2 := cell_block B2c.out 2
  have r3 := cell_block B2c.out 3
  have f0 := block_free' B2c.out 0
  have f1 := block_free' B2c.out 1
  have f2 := block_free' B2c.out 2
  have f3 := block_free' B2c.out 3
  go_wp2_with fail
  have XB := done_put B2c.out (y0 := .int .i64 GP) (y1 := .int .i64 GN) (y2 := .slice gco gcn gcc) (y3 := .slice goo gon goc)
  have GG := grown_four w3 (b + 1) (.int .i64 GP) (.int .i64 GN) (.slice gco gcn gcc) (.slice goo gon goc)
  have KE : Hid (Below w.heap.size w ((((w3.setCell ⟨b + 1, 0, none⟩ (.int .i64 GP)).setCell ⟨b + 1, 1, none⟩ (.int .i64 GN)).setCell ⟨b + 1, 2, none⟩ (.slice gco gcn gcc)).setCell ⟨b + 1, 3, none⟩ (.slice goo gon goc))) := Lib.hid (by
    have h : w.heap.size ≤ b + 1 := by have := HBW.out; omega
    exact (((KB3.out.setCell (p := ⟨b + 1, 0, none⟩) h _).setCell (p := ⟨b + 1, 1, none⟩) h _).setCell (p := ⟨b + 1, 2, none⟩) h _).setCell (p := ⟨b + 1, 3, none⟩) h _)
  have HOE := Lib.hid (HO.out.row GG HBW2.out)
  have HSZ : Hid (w.heap.size ≤ w2.heap.size) := Lib.hid (by have := HBW.out; have := HBW2.out; omega)
  obtain ⟨we, hwe⟩ : ∃ we, (((w3.setCell ⟨b + 1, 0, none⟩ (.int .i64 GP)).setCell ⟨b + 1, 1, none⟩ (.int .i64 GN)).setCell ⟨b + 1, 2, none⟩ (.slice gco gcn gcc)).setCell ⟨b + 1, 3, none⟩ (.slice goo gon goc) = we := ⟨_, rfl⟩
  rw [hwe] at XB KE HOE ⊢
  clear r0 r1 r2 r3 f0 f1 f2 f3 GG hwe
  have r0 := cell_block XB 0
  have r1 := cell_block XB 1
  have r2 := cell_block XB 2
  have r3 := cell_block XB 3
  exact bodyPost_ret (v := .tuple #[.agg #[.int .i64 GP, .int .i64 GN, .slice gco gcn gcc, .slice goo gon goc], .int .i64 0]) (by simp [results, Try.results27, go_sem, r0, r1, r2, r3]) rfl ⟨⟨GP, GN, gco, gcn, gcc, goo, gon, goc, gcs, gos⟩, rfl, HI, Lib.hid (HOE.out.mono HSZ.out), KE⟩
set_option maxHeartbeats 1000000 in
theorem done_no (F : Fv) (w : World) (hF : F.At w) (hs : F.Mid) (rt : ¬ F.Rt) :
    Calls Try.prog 27 #[F.v] w fun e w' => e = .returned (.tuple #[.agg #[.int .i64 0, .int .i64 0, .slice none 0 0, .slice none 0 0], .int .i64 20]) ∧ Hid (Below w.heap.size w w') := by
  have HR := Lib.hid (fun W (h : F.At W) => right_mid F W h hs false ⟨fun e => (by cases e), fun e => absurd e rt⟩)
  have HFA := Lib.hid hF
  obtain ⟨P, N, co, cn, cc, oo, on, oc, cs, os⟩ := F
  obtain ⟨b, hb⟩ : ∃ b, w.heap.size = b := ⟨_, rfl⟩
  obtain ⟨w1, hw1⟩ : ∃ z, (w.alloc (.cells #[.int .i64 P, .int .i64 N, .slice co cn cc, .slice oo on oc] 25)).alloc (.cells #[.int .i64 0, .int .i64 0, .slice none 0 0, .slice none 0 0] 25) = z := ⟨_, rfl⟩
  have KB : Hid (Below w.heap.size w w1) := Lib.hid (by rw [← hw1]; exact ((Below.refl _ w).alloc (Nat.le_refl _) _).alloc (by simp) _)
  have B1 : Hid (w1.heap[b]? = some (.cells #[.int .i64 P, .int .i64 N, .slice co cn cc, .slice oo on oc] 25 (0, 0))) := Lib.hid (by rw [← hw1]; exact (Below.heap_alloc _ _ _ (by simp; omega)).trans (heap_at hb))
  have B2 : Hid (w1.heap[b + 1]? = some (.cells #[.int .i64 0, .int .i64 0, .slice none 0 0, .slice none 0 0] 25 (0, 0))) := Lib.hid (by rw [← hw1]; exact heap_at (by simp; omega))
  have HR : Hid (∀ W, Fv.At ⟨P, N, co, cn, cc, oo, on, oc, cs, os⟩ W → Calls Try.prog 18 #[.agg #[.int .i64 P, .int .i64 N, .slice co cn cc, .slice oo on oc]] W fun e w' => e = .returned (.int .i64 50) ∧ Below W.heap.size W w') := HR
  have HBW : Hid (w.heap.size ≤ b ∧ b + 1 < w1.heap.size) := Lib.hid ⟨by omega, (Array.getElem?_eq_some_iff.1 B2.out).1⟩
  clear hF hs rt
  show Calls Try.prog 27 #[.agg #[.int .i64 P, .int .i64 N, .slice co cn cc, .slice oo on oc]] w _
  go_enter Try.func27, Try.ntmps27
  go_upto_region 1 with fail
  try rw [hw1]
  try rw [hb]
  clear hw1 hb
  have c0 := cell_block B1.out 0
  have c1 := cell_block B1.out 1
  have c2 := cell_block B1.out 2
  have c3 := cell_block B1.out 3
  go_wp2_with fail
  (with_reducible refine (HR.out _ (HFA.out.keep KB.out)).mono ?_)
  rintro e w2 ⟨rfl, q⟩
  have KB2 := Lib.hid (KB.out.trans (q.mono KB.out.size))
  have B1b := Lib.hid (heap_keep' B1.out q)
  have B2b := Lib.hid (heap_keep' B2.out q)
  have HBW2 : Hid (b + 1 < w2.heap.size) := Lib.hid (Nat.lt_of_lt_of_le HBW.out.2 q.size)
  clear q c0 c1 c2 c3 KB B1 B2
  obtain ⟨r0, r1, r2, r3⟩ : _ ∧ _ ∧ _ ∧ _ := ⟨cell_block B2b.out 0, cell_block B2b.out 1, cell_block B2b.out 2, cell_block B2b.out 3⟩
  have f0 := block_free' B2b.out 0
  have f1 := block_free' B2b.out 1
  have f2 := block_free' B2b.out 2
  have f3 := block_free' B2b.out 3
  go_wp2_with fail
  have XB := done_put B2b.out (y0 := .int .i64 0) (y1 := .int .i64 0) (y2 := .slice none 0 0) (y3 := .slice none 0 0)
  have KE : Hid (Below w.heap.size w ((((w2.setCell ⟨b + 1, 0, none⟩ (.int .i64 0)).setCell ⟨b + 1, 1, none⟩ (.int .i64 0)).setCell ⟨b + 1, 2, none⟩ (.slice none 0 0)).setCell ⟨b + 1, 3, none⟩ (.slice none 0 0))) := Lib.hid (by
    have h : w.heap.size ≤ b + 1 := by have := HBW.out; omega
    exact (((KB2.out.setCell (p := ⟨b + 1, 0, none⟩) h _).setCell (p := ⟨b + 1, 1, none⟩) h _).setCell (p := ⟨b + 1, 2, none⟩) h _).setCell (p := ⟨b + 1, 3, none⟩) h _)
  obtain ⟨we, hwe⟩ : ∃ we, (((w2.setCell ⟨b + 1, 0, none⟩ (.int .i64 0)).setCell ⟨b + 1, 1, none⟩ (.int .i64 0)).setCell ⟨b + 1, 2, none⟩ (.slice none 0 0)).setCell ⟨b + 1, 3, none⟩ (.slice none 0 0) = we := ⟨_, rfl⟩
  rw [hwe] at XB KE ⊢
  clear r0 r1 r2 r3 f0 f1 f2 f3 hwe
  have r0 := cell_block XB 0
  have r1 := cell_block XB 1
  have r2 := cell_block XB 2
  have r3 := cell_block XB 3
  exact bodyPost_ret (v := .tuple #[.agg #[.int .i64 0, .int .i64 0, .slice none 0 0, .slice none 0 0], .int .i64 20]) (by simp [results, Try.results27, go_sem, r0, r1, r2, r3]) rfl ⟨rfl, KE⟩
/-- A slice of spans of the call's own: all cells numbers. -/
def IntRow (W : World) (B : Nat) (u : Value) : Prop := ∃ ao n c, u = .slice ao n c ∧ n ≤ 9223372036854775807 ∧ (0 < n → ∃ g cur, ao = some ⟨g, 0, none⟩ ∧ B ≤ g ∧ W.heap[g]? = some (.cells cur 50 (0, 0)) ∧ ∀ j, j < n * 2 → ∃ z : Int, cur[j]? = some (.int .i64 z))
theorem IntRow.grown {W W' : World} {B : Nat} {u : Value} {row : Option Nat} (h : IntRow W B u) (hg : W.grownBy W' row) (ho : Off W B 50 row) : IntRow W' B u := by
  obtain ⟨ao, n, c, rfl, h1, h2⟩ := h
  refine ⟨ao, n, c, rfl, h1, fun h0 => ?_⟩
  obtain ⟨g, cur, e, h3, h4, h5⟩ := h2 h0
  refine ⟨g, cur, e, h3, ?_, h5⟩
  rw [hg.block g (Array.getElem?_eq_some_iff.1 h4).1 (fun q => by
    rcases ho g q.symm with q | ⟨cur', t, q1, q2⟩
    · omega
    · rw [h4] at q1; cases q1; exact q2 rfl)]
  exact h4
theorem IntRow.set {W : World} {B : Nat} {u : Value} (h : IntRow W B u) (g o : Nat) (z : Int) : IntRow (W.setCell ⟨g, o, none⟩ (.int .i64 z)) B u := by
  obtain ⟨ao, n, c, rfl, h1, h2⟩ := h
  refine ⟨ao, n, c, rfl, h1, fun h0 => ?_⟩
  obtain ⟨g', cur, e, h3, h4, h5⟩ := h2 h0
  by_cases q : g' = g
  · subst q
    refine ⟨g', cur.setIfInBounds o (.int .i64 z), e, h3, set_block h4 o _, fun j hj => ?_⟩
    obtain ⟨y, hy⟩ := h5 j hj
    rw [Array.getElem?_setIfInBounds]
    split
    · have hs := (Array.getElem?_eq_some_iff.1 hy).1
      rename_i e2
      subst e2
      exact ⟨z, by simp [hs]⟩
    · exact ⟨y, hy⟩
  · refine ⟨g', cur, e, h3, ?_, h5⟩
    rw [(grown_cell W ⟨g, o, none⟩ (.int .i64 z)).block g' (Array.getElem?_eq_some_iff.1 h4).1 (fun x => q (Option.some.inj x))]
    exact h4
theorem intRow_of {W : World} {B n : Nat} {v : Value} {l : List Sp} (h : W.ownsRow B 50 2 v n (spCells l)) (hl : l.length = n) : IntRow W B v := by
  rcases h.2 with ⟨rfl, h0⟩ | ⟨g, cap, cur, rfl, h2, h3, h4, h5, h6, h7⟩
  · exact ⟨none, 0, 0, rfl, by decide, fun h => absurd h (Nat.lt_irrefl _)⟩
  · refine ⟨_, n, _, rfl, by unfold maxLen at h5; omega, fun h0 => ⟨g, cur, rfl, h2, h3, fun j hj => ?_⟩⟩
    have e := congrArg (fun q => q[j]?) h7
    simp only [List.getElem?_take] at e
    rw [if_pos hj] at e
    have hi : j / 2 < l.length := by omega
    have q := spCells_at l (j / 2) hi
    rcases Nat.mod_two_eq_zero_or_one j with e1 | e1
    · have e2 : j / 2 * 2 = j := by omega
      rw [e2] at q
      exact ⟨_, by rw [← Array.getElem?_toList, e]; exact q.1⟩
    · have e2 : j / 2 * 2 + 1 = j := by omega
      rw [e2] at q
      exact ⟨_, by rw [← Array.getElem?_toList, e]; exact q.2⟩
structure CoInt (W : World) (B : Nat) (v : Value) (n : Nat) (us : Nat → Value) : Prop where
  row : ∃ vs, W.ownsRow B 34 1 v n vs ∧ ∀ i, i < n → vs[i]? = some (us i)
  ints : ∀ i, i < n → IntRow W B (us i)
structure OdInt (W : World) (B : Nat) (v : Value) (n : Nat) (us : Nat → Value) : Prop where
  row : ∃ vs, W.ownsRow B 52 2 v n vs ∧ ∀ i, i < n → (∃ z : Int, vs[i * 2]? = some (.int .i64 z)) ∧ vs[i * 2 + 1]? = some (us i)
  ints : ∀ i, i < n → IntRow W B (us i)
theorem coInt_of {W : World} {B n : Nat} {v : Value} {ls : List (List Sp)} (h : CoOwn W B v n ls) : ∃ us, CoInt W B v n us := by
  obtain ⟨xs, a, b⟩ := h.row
  refine ⟨fun i => (xs[i]?).getD (.int .i64 0), ⟨xs, a, fun i hi => ?_⟩, fun i hi => ?_⟩
  · have hx : i < xs.length := by have := a.1; omega
    rw [List.getElem?_eq_getElem hx]; rfl
  · obtain ⟨u, c, d⟩ := b i (by rw [h.len]; exact hi)
    rw [c]; exact intRow_of d rfl
theorem odInt_of {W : World} {B n : Nat} {v : Value} {os : List Gr} (h : OdOwn W B v n os) : ∃ us, OdInt W B v n us := by
  obtain ⟨xs, a, b⟩ := h.row
  refine ⟨fun i => (xs[i * 2 + 1]?).getD (.int .i64 0), ⟨xs, a, fun i hi => ?_⟩, fun i hi => ?_⟩
  · obtain ⟨q, ⟨u, c, d⟩, _⟩ := b i (by rw [h.len]; exact hi)
    exact ⟨⟨_, q⟩, by rw [c]; rfl⟩
  · obtain ⟨q, ⟨u, c, d⟩, _⟩ := b i (by rw [h.len]; exact hi)
    rw [c]; exact intRow_of d rfl
/-- The copy, while it is written. -/
structure Cw (w4 W : World) (bc : Nat) (bx : Array Value) (vc vo : Value) (cn on : Nat) (uc uo : Nat → Value) : Prop where
  bw : Below w4.heap.size w4 W
  lo : w4.heap.size ≤ bc
  box : W.heap[bc]? = some (.cells bx 25 (0, 0))
  co : CoInt W w4.heap.size vc cn uc
  od : OdInt W w4.heap.size vo on uo
theorem Cw.keep {w4 W W' : World} {bc : Nat} {bx : Array Value} {vc vo : Value} {cn on : Nat} {uc uo : Nat → Value} (h : Cw w4 W bc bx vc vo cn on uc uo) (k : Below W.heap.size W W') : Cw w4 W' bc bx vc vo cn on uc uo := by
  have hg := grown_of_below k
  have o : ∀ e, Off W w4.heap.size e none := fun e q z => by cases z
  refine ⟨h.bw.trans (k.mono h.bw.size), h.lo, (k.block bc (Array.getElem?_eq_some_iff.1 h.box).1).trans h.box, ⟨?_, fun i hi => (h.co.ints i hi).grown hg (o _)⟩, ⟨?_, fun i hi => (h.od.ints i hi).grown hg (o _)⟩⟩
  · obtain ⟨vs, a, b⟩ := h.co.row; exact ⟨vs, own_off a hg (o _), b⟩
  · obtain ⟨vs, a, b⟩ := h.od.row; exact ⟨vs, own_off a hg (o _), b⟩
/-- A number of a set is written. -/
theorem Cw.inner {w4 W : World} {bc : Nat} {bx : Array Value} {vc vo : Value} {cn on : Nat} {uc uo : Nat → Value} (h : Cw w4 W bc bx vc vo cn on uc uo) {g : Nat} {cur : Array Value} (hg : W.heap[g]? = some (.cells cur 50 (0, 0))) (hb : w4.heap.size ≤ g) (o : Nat) (z : Int) : Cw w4 (W.setCell ⟨g, o, none⟩ (.int .i64 z)) bc bx vc vo cn on uc uo := by
  have hgr := grown_cell W ⟨g, o, none⟩ (.int .i64 z)
  have off : ∀ e : Nat, 50 ≠ e → Off W w4.heap.size e (some g) := fun e he q x => .inr ⟨cur, 50, by cases x; exact hg, he⟩
  refine ⟨h.bw.setCell (p := ⟨g, o, none⟩) hb _, h.lo, (hgr.block bc (Array.getElem?_eq_some_iff.1 h.box).1 (fun e => by
    have e2 : bc = g := Option.some.inj e
    have := h.box
    rw [e2, hg] at this
    cases this)).trans h.box, ⟨?_, fun i hi => (h.co.ints i hi).set g o z⟩, ⟨?_, fun i hi => (h.od.ints i hi).set g o z⟩⟩
  · obtain ⟨vs, a, b⟩ := h.co.row; exact ⟨vs, own_off a hgr (off _ (by decide)), b⟩
  · obtain ⟨vs, a, b⟩ := h.od.row; exact ⟨vs, own_off a hgr (off _ (by decide)), b⟩
/-- An index of an exception is written. -/
theorem Cw.index {w4 W : World} {bc : Nat} {bx : Array Value} {vc : Value} {cn on g c : Nat} {uc uo : Nat → Value} (h : Cw w4 W bc bx vc (.slice (some ⟨g, 0, none⟩) on c) cn on uc uo) {i : Nat} (hi : i < on) (z : Int) : Cw w4 (W.setCell ⟨g, i * 2, none⟩ (.int .i64 z)) bc bx vc (.slice (some ⟨g, 0, none⟩) on c) cn on uc uo := by
  obtain ⟨vs, a, b⟩ := h.od.row
  obtain ⟨cur, hg⟩ := own_typed a (g := g) rfl
  have hb := (a.lt g rfl).1
  have hs := a.stored (i * 2) (.int .i64 z)
  have hl := a.1
  have off : ∀ e : Nat, 52 ≠ e → Off W w4.heap.size e (some g) := fun e he q x => .inr ⟨cur, 52, by cases x; exact hg, he⟩
  refine ⟨h.bw.setCell (p := ⟨g, i * 2, none⟩) hb _, h.lo, (hs.2.block bc (Array.getElem?_eq_some_iff.1 h.box).1 (fun e => by
    have e2 : bc = g := Option.some.inj e
    have := h.box
    rw [e2, hg] at this
    cases this)).trans h.box, ⟨?_, fun i hi => (h.co.ints i hi).set g _ z⟩, ⟨⟨_, hs.1, fun j hj => ⟨?_, ?_⟩⟩, fun i hi => (h.od.ints i hi).set g _ z⟩⟩
  · obtain ⟨vs, a, b⟩ := h.co.row; exact ⟨vs, own_off a hs.2 (off _ (by decide)), b⟩
  · by_cases e : j = i
    · subst e; exact ⟨z, by rw [List.getElem?_set]; simp; omega⟩
    · rw [List.getElem?_set, if_neg (by omega)]; exact (b j hj).1
  · rw [List.getElem?_set, if_neg (by omega)]; exact (b j hj).2
theorem Cw.boxc {w4 W : World} {bc : Nat} {bx : Array Value} {vc vo : Value} {cn on : Nat} {uc uo : Nat → Value} (h : Cw w4 W bc bx vc vo cn on uc uo) (k : Nat) : W.cell? ⟨bc, k, none⟩ = bx[k]? := cell_block h.box k
/-- A number of a row, and that it may be written. -/
theorem IntRow.spot {W : World} {B : Nat} {ao : Option Addr} {n c : Nat} (h : IntRow W B (.slice ao n c)) {i : Nat} (hi : i < n) : ∃ g cur, ao = some ⟨g, 0, none⟩ ∧ W.heap[g]? = some (.cells cur 50 (0, 0)) ∧ B ≤ g ∧ (∃ z : Int, W.cell? ⟨g, i * 2, none⟩ = some (.int .i64 z)) ∧ (∃ z : Int, W.cell? ⟨g, i * 2 + 1, none⟩ = some (.int .i64 z)) ∧ W.frozen? ⟨g, i * 2, none⟩ = false ∧ W.frozen? ⟨g, i * 2 + 1, none⟩ = false := by
  obtain ⟨ao', n', c', e, h1, h2⟩ := h
  cases e
  obtain ⟨g, cur, rfl, h3, h4, h5⟩ := h2 (by omega)
  refine ⟨g, cur, rfl, h4, h3, ?_, ?_, ?_, ?_⟩
  · obtain ⟨z, hz⟩ := h5 (i * 2) (by omega); exact ⟨z, by rw [cell_block h4]; exact hz⟩
  · obtain ⟨z, hz⟩ := h5 (i * 2 + 1) (by omega); exact ⟨z, by rw [cell_block h4]; exact hz⟩
  · unfold World.frozen?; rw [h4]; simp
  · unfold World.frozen?; rw [h4]; simp
theorem IntRow.slice {W : World} {B : Nat} {u : Value} (h : IntRow W B u) : ∃ ao n c, u = .slice ao n c ∧ n ≤ 9223372036854775807 := by
  obtain ⟨ao, n, c, e, h1, _⟩ := h; exact ⟨ao, n, c, e, h1⟩

/-- A shifted form, wherever it lies. -/
def shF (F : Fv) (m : Int) : Fv := ⟨F.P, F.N, none, F.cn, 0, none, F.on, 0, shCs F.cs F.P F.N m, shOs F.os m⟩
def ShK (F K : Fv) (m : Int) : Prop := Sh F K m ∧ K.cn = F.cn ∧ K.on = F.on
theorem rt_like {F K : Fv} (h : F.Rt) (e1 : K.P = F.P) (e2 : K.N = F.N) (e3 : K.cn = F.cn) (e4 : K.on = F.on) (e5 : K.cs = F.cs) (e6 : K.os = F.os) : K.Rt := by
  obtain ⟨P, N, co, cn, cc, oo, on, oc, cs, os⟩ := F
  obtain ⟨P', N', co', cn', cc', oo', on', oc', cs', os'⟩ := K
  dsimp only at e1 e2 e3 e4 e5 e6
  subst e1 e2 e3 e4 e5 e6
  exact ⟨h.meas, h.core, h.odd, h.ris, fun i => ⟨fun q j n => (h.fit i).1 q j (nr_gr (F := ⟨P', N', co, cn', cc, oo, on', oc, cs', os'⟩) (G := ⟨P', N', co', cn', cc', oo', on', oc', cs', os'⟩) (fun _ => rfl) n), fun q j n => (h.fit i).2 q j (nr_gr (F := ⟨P', N', co, cn', cc, oo, on', oc, cs', os'⟩) (G := ⟨P', N', co', cn', cc', oo', on', oc', cs', os'⟩) (fun _ => rfl) n)⟩⟩
theorem rt_sh {F K : Fv} {m : Int} (s : ShK F K m) : K.Rt ↔ (shF F m).Rt := by
  obtain ⟨⟨a, b, c, d⟩, e, f⟩ := s
  exact ⟨fun h => rt_like h a.symm b.symm e.symm f.symm c.symm d.symm, fun h => rt_like h a b e f c d⟩
/-- What Shift answers. -/
def ShOut (F : Fv) (m : Int) (n₀ : Nat) (e : Ending) (w' : World) : Prop :=
  (¬ InR m ∧ e = .returned (.tuple #[.agg #[.int .i64 0, .int .i64 0, .slice none 0 0, .slice none 0 0], .int .i64 2])) ∨
  (InR m ∧ ¬ (shF F m).Rt ∧ e = .returned (.tuple #[.agg #[.int .i64 0, .int .i64 0, .slice none 0 0, .slice none 0 0], .int .i64 20])) ∨
  (InR m ∧ ∃ K G : Fv, ShK F K m ∧ K.Rt ∧ IsCan K G ∧ G.Own w' n₀ ∧ e = .returned (.tuple #[.agg #[.int .i64 G.P, .int .i64 G.N, .slice G.co G.cn G.cc, .slice G.oo G.on G.oc], .int .i64 0]))
/-- The boxes while Shift goes on. -/
structure ShW (F : Fv) (w W : World) (b r d g n₁ : Nat) (vc vo : Value) : Prop where
  bw : Below w.heap.size w W
  sz : n₁ ≤ W.heap.size
  b0 : W.heap[b]? = some (.cells F.box 25 (0, 0))
  b1 : W.heap[r]? = some (.cells #[.int .i64 0, .int .i64 0, .slice none 0 0, .slice none 0 0] 25 (0, 0))
  b2 : W.heap[d]? = some (.cells #[.int .i64 0] 29 (0, 0))
  g_ : W.heap[g]? = some (.cells #[.int .i64 F.P, .int .i64 F.N, vc, vo] 25 (0, 0))
  lo : w.heap.size ≤ b
  br : b < r
  rd : r < d
  mid : d < g
  hi : g < n₁
theorem ShW.grown {F : Fv} {w W W' : World} {b r d g n₁ : Nat} {vc vo : Value} {row : Option Nat} (h : ShW F w W b r d g n₁ vc vo) (hg : W.grownBy W' row) (hr : ∀ q, row = some q → n₁ ≤ q) : ShW F w W' b r d g n₁ vc vo := by
  have lo := h.lo; have br := h.br; have rd := h.rd; have mid := h.mid; have hi := h.hi
  have bl : ∀ {k : Nat} {o : Obj}, k < n₁ → W.heap[k]? = some o → W'.heap[k]? = some o := fun h1 h2 => (hg.block _ (Array.getElem?_eq_some_iff.1 h2).1 (fun e => by have := hr _ e.symm; omega)).trans h2
  exact ⟨h.bw.grown hg h.bw.size (fun r e => by have := hr r e; omega), Nat.le_trans h.sz hg.size, bl (by omega) h.b0, bl (by omega) h.b1, bl (by omega) h.b2, bl hi h.g_, lo, br, rd, mid, hi⟩
theorem ShW.keep {F : Fv} {w W W' : World} {b r d g n₁ : Nat} {vc vo : Value} (h : ShW F w W b r d g n₁ vc vo) (k : Below W.heap.size W W') : ShW F w W' b r d g n₁ vc vo := h.grown (grown_of_below k) (fun r e => by cases e)
theorem ShW.put2 {F : Fv} {w W : World} {b r d g n₁ : Nat} {vc vo : Value} (h : ShW F w W b r d g n₁ vc vo) (u : Value) : ShW F w (W.setCell ⟨g, 2, none⟩ u) b r d g n₁ u vo := by
  have lo := h.lo; have br := h.br; have rd := h.rd; have mid := h.mid; have hi := h.hi
  have bl : ∀ {k : Nat} {o : Obj}, k ≠ g → W.heap[k]? = some o → (W.setCell ⟨g, 2, none⟩ u).heap[k]? = some o := fun h1 h2 => (Below.heap_setCell W ⟨g, 2, none⟩ u _ h1).trans h2
  exact ⟨h.bw.setCell (p := ⟨g, 2, none⟩) (by show w.heap.size ≤ g; omega) u, by simpa using h.sz, bl (by omega) h.b0, bl (by omega) h.b1, bl (by omega) h.b2, by rw [set_block h.g_]; rfl, lo, br, rd, mid, hi⟩
theorem ShW.put3 {F : Fv} {w W : World} {b r d g n₁ : Nat} {vc vo : Value} (h : ShW F w W b r d g n₁ vc vo) (u : Value) : ShW F w (W.setCell ⟨g, 3, none⟩ u) b r d g n₁ vc u := by
  have lo := h.lo; have br := h.br; have rd := h.rd; have mid := h.mid; have hi := h.hi
  have bl : ∀ {k : Nat} {o : Obj}, k ≠ g → W.heap[k]? = some o → (W.setCell ⟨g, 3, none⟩ u).heap[k]? = some o := fun h1 h2 => (Below.heap_setCell W ⟨g, 3, none⟩ u _ h1).trans h2
  exact ⟨h.bw.setCell (p := ⟨g, 3, none⟩) (by show w.heap.size ≤ g; omega) u, by simpa using h.sz, bl (by omega) h.b0, bl (by omega) h.b1, bl (by omega) h.b2, by rw [set_block h.g_]; rfl, lo, br, rd, mid, hi⟩
theorem co_kept {W W' : World} {B n : Nat} {v : Value} {ls : List (List Sp)} {row : Option Nat} (h : CoOwn W B v n ls) (hg : W.grownBy W' row) (hr : ∀ r, row = some r → ∃ o : Obj, W.heap[r]? = some o ∧ o.isCells = false) : CoOwn W' B v n ls := by
  obtain ⟨xs, a, b⟩ := h.row
  exact ⟨h.len, xs, own_kept a hg hr, fun i hi => by obtain ⟨u, c, d⟩ := b i hi; exact ⟨u, c, own_kept d hg hr⟩⟩
theorem od_kept {W W' : World} {B n : Nat} {v : Value} {os : List Gr} {row : Option Nat} (h : OdOwn W B v n os) (hg : W.grownBy W' row) (hr : ∀ r, row = some r → ∃ o : Obj, W.heap[r]? = some o ∧ o.isCells = false) : OdOwn W' B v n os := by
  obtain ⟨xs, a, b⟩ := h.row
  exact ⟨h.len, xs, own_kept a hg hr, fun i hi => by obtain ⟨q, ⟨u, c, d⟩, z⟩ := b i hi; exact ⟨q, ⟨u, c, own_kept d hg hr⟩, z⟩⟩
theorem own_put {G : Fv} {W : World} {B D : Nat} {o o' : Obj} (h : G.Own W B) (hl : W.heap[D]? = some o) (ho : o.isCells = false) : G.Own (W.putObj D o') B :=
  ⟨co_kept h.co (grownBy_putObj' W D o') (fun r e => by cases e; exact ⟨o, hl, ho⟩), od_kept h.od (grownBy_putObj' W D o') (fun r e => by cases e; exact ⟨o, hl, ho⟩), h.p1, h.p2, h.n1, h.n2, h.short⟩
/-- One set more. -/
theorem co_snoc {W : World} {B n : Nat} {v : Value} {ls : List (List Sp)} {xs : List Value} {u : Value} {l : List Sp} (hl : ls.length = n) (a : W.ownsRow B 34 1 v (n + 1) (xs ++ [u])) (b : ∀ i (h : i < ls.length), ∃ u, xs[i]? = some u ∧ W.ownsRow B 50 2 u ls[i].length (spCells ls[i])) (d : W.ownsRow B 50 2 u l.length (spCells l)) : CoOwn W B v (n + 1) (ls ++ [l]) := by
  have hx : xs.length = n := by have := a.1; simp at this; omega
  refine ⟨by simp [hl], xs ++ [u], a, fun i hi => ?_⟩
  by_cases q : i < ls.length
  · obtain ⟨y, h1, h2⟩ := b i q
    refine ⟨y, by rw [List.getElem?_append_left (by omega)]; exact h1, ?_⟩
    rw [List.getElem_append_left q]; exact h2
  · have e : i = ls.length := by simp at hi; omega
    subst e
    refine ⟨u, by rw [List.getElem?_append_right (by omega)]; simp [hx, hl], ?_⟩
    rw [List.getElem_append_right (by omega)]
    simpa using d
/-- What the loop keeps. -/
def ShI (F : Fv) (m : Int) (w : World) (b r d g n₁ : Nat) (s : Nat) (W : World) : Prop := ∃ vc, s ≤ F.cn ∧ ShW F w W b r d g n₁ vc (.slice none 0 0) ∧ CoOwn W n₁ vc s ((shCs F.cs F.P F.N m).take s)
theorem shI_own (F : Fv) (m : Int) (w : World) (b r d g n₁ : Nat) : OwnFrom n₁ (ShI F m w b r d g n₁) := fun s X Y row h hg hr => by
  obtain ⟨vc, h1, h2, h3⟩ := h
  exact ⟨vc, h1, h2.grown hg (fun r e => (hr r e).1), co_kept h3 hg (fun r e => (hr r e).2)⟩
def ShX (F : Fv) (m : Int) (w : World) (r d : Nat) (c : Code) (_ : Nat) (W : World) : Prop := c = .ret ∧ ¬ (shF F m).Rt ∧ W.heap[r]? = some (.cells #[.int .i64 0, .int .i64 0, .slice none 0 0, .slice none 0 0] 25 (0, 0)) ∧ W.heap[d]? = some (.cells #[.int .i64 20] 29 (0, 0)) ∧ Below w.heap.size w W
theorem shX_own (F : Fv) (m : Int) (w : World) (r d n₁ : Nat) (h1 : w.heap.size ≤ n₁) (h0 : r < n₁) (h2 : d < n₁) (c : Code) : OwnFrom n₁ (ShX F m w r d c) := fun s X Y row h hg hr => by
  obtain ⟨a, a2, a3, a4, a5⟩ := h
  have bl : ∀ {k : Nat} {o : Obj}, k < n₁ → X.heap[k]? = some o → Y.heap[k]? = some o := fun h1 h2 => (hg.block _ (Array.getElem?_eq_some_iff.1 h2).1 (fun e => by have := (hr _ e.symm).1; omega)).trans h2
  exact ⟨a, a2, bl (by omega) a3, bl (by omega) a4, a5.grown hg a5.size (fun r e => by have := (hr r e).1; omega)⟩
def ShA (S : Int → List Sp) (ok : Int → Prop) (B bl : Nat) (from_ : Int) (n : Nat) (act : Value × Int → Act) (s : Nat) (x : Value × Int) (a' : Act) (W : World) : Prop := a' = act x ∧ s < n ∧ TO S ok B (from_ + (s : Int)) x W
theorem shA_own {S : Int → List Sp} {ok : Int → Prop} {B bl : Nat} {from_ : Int} {n : Nat} {act : Value × Int → Act} {C : Nat} (s : Nat) (x : Value × Int) (a' : Act) : OwnFrom C (fun (_ : Unit) W => ShA S ok B bl from_ n act s x a' W) := fun _ X Y row h hg hr => by
  obtain ⟨h1, h2, h3⟩ := h
  refine ⟨h1, h2, ?_⟩
  rcases h3 with ⟨a, b, c⟩ | z
  · exact .inl ⟨a, b, own_kept c hg (fun r e => (hr r e).2)⟩
  · exact .inr z
theorem sh_get {cs : List (List Sp)} {P N m : Int} {j : Nat} (h : j < cs.length) : (shCs cs P N m)[j]'(by rw [shCs_len]; exact h) = cg cs P N (-m + (j : Int)) := by
  unfold shCs
  rw [List.getElem_map, List.getElem_range]
  congr 1
  omega
theorem info34s : (Try.prog.info? 34).map (fun i => (i.zero, i.size, i.bytes)) = some (some (.slice none 0 0), 1, 24) := by kernel_rfl
theorem info52s : (Try.prog.info? 52).map (fun i => (i.zero, i.size, i.bytes)) = some (some (.agg #[.int .i64 0, .slice none 0 0]), 2, 32) := by kernel_rfl
theorem cg_len_le {cs : List (List Sp)} {P N : Int} {M : Nat} (h : ∀ l ∈ cs, l.length ≤ M) (i : Int) : (cg cs P N i).length ≤ M := by
  unfold cg
  split
  · rw [moved_length]
    unfold cset
    rw [List.getD_eq_getElem?_getD]
    cases e : cs[(i.fmod N).toNat]? with
    | none => exact Nat.zero_le _
    | some l => exact h l (List.mem_of_getElem? e)
  · exact Nat.zero_le _
theorem sh_mid {F K : Fv} {m : Int} (s : ShK F K m) (hs : F.Small) (hl : F.cs.length = F.cn) : K.Mid ∧ (∀ l ∈ K.cs, l.length ≤ 60) ∧ ∀ o ∈ K.os, o.2.length ≤ 60 := by
  obtain ⟨⟨s1, s2, s3, s4⟩, s5, s6⟩ := s
  obtain ⟨h1, h2, h3⟩ := hs
  unfold Fv.size at h3
  have a : ∀ l ∈ K.cs, l.length ≤ 60 := fun l hl => by
    rw [s3] at hl
    obtain ⟨j, _, rfl⟩ := List.mem_map.1 hl
    exact cg_len_le (fun l hl => by have := le_lens hl; omega) _
  have e : tks K.os = tks F.os := by rw [s4]; simp [tks, shOs]
  have b : ∀ o ∈ K.os, o.2.length ≤ 60 := fun o ho => by
    have := le_lens (ls := tks K.os) (List.mem_map.2 ⟨o, ho, rfl⟩)
    rw [e] at this
    omega
  refine ⟨⟨by omega, by omega, ?_⟩, a, b⟩
  have c := lens_le a
  have d : K.cs.length ≤ 12 := by rw [s3, shCs_len]; omega
  unfold Fv.size
  rw [e]
  have : K.cs.length * 60 ≤ 12 * 60 := Nat.mul_le_mul_right 60 d
  omega
theorem vsod_snoc {w : World} {vs : List Value} {os : List Gr} {k : Int} {o : Option Addr} {n c : Nat} {l : List Sp} (h : VsOd w vs os) (hl : SpAt w o n c l) (h1 : -9223372036854775808 ≤ k) (h2 : k ≤ 9223372036854775807) : VsOd w (vs ++ [.int .i64 k, .slice o n c]) (os ++ [(k, l)]) := by
  have e := h.len
  refine ⟨by simp; omega, fun i hi => ?_⟩
  by_cases q : i < os.length
  · obtain ⟨a, ⟨o', m', d', b1, b2⟩, c⟩ := h.at_ i q
    rw [List.getElem_append_left q, List.getElem?_append_left (by omega), List.getElem?_append_left (by omega)]
    exact ⟨a, ⟨o', m', d', b1, b2⟩, c⟩
  · have z : i = os.length := by simp at hi; omega
    subst z
    rw [List.getElem?_append_right (by omega), List.getElem?_append_right (by omega), List.getElem_append_right (by omega)]
    rw [show os.length * 2 - vs.length = 0 by omega, show os.length * 2 + 1 - vs.length = 1 by omega]
    exact ⟨by simp, ⟨o, n, c, by simp, by simpa using hl⟩, by simpa using ⟨h1, h2⟩⟩
/-- The results' cells, written. -/
theorem res_put {w0 w : World} {n₀ r d : Nat} {x0 x1 x2 x3 z0 : Value} (h1 : w.heap[r]? = some (.cells #[x0, x1, x2, x3] 25 (0, 0))) (h2 : w.heap[d]? = some (.cells #[z0] 29 (0, 0))) (ne : r ≠ d) (hb : Below n₀ w0 w) (l1 : n₀ ≤ r) (l2 : n₀ ≤ d) (y0 y1 y2 y3 z : Value) :
    (((((w.setCell ⟨r, 0, none⟩ y0).setCell ⟨r, 1, none⟩ y1).setCell ⟨r, 2, none⟩ y2).setCell ⟨r, 3, none⟩ y3).setCell ⟨d, 0, none⟩ z).heap[r]? = some (.cells #[y0, y1, y2, y3] 25 (0, 0)) ∧
    (((((w.setCell ⟨r, 0, none⟩ y0).setCell ⟨r, 1, none⟩ y1).setCell ⟨r, 2, none⟩ y2).setCell ⟨r, 3, none⟩ y3).setCell ⟨d, 0, none⟩ z).heap[d]? = some (.cells #[z] 29 (0, 0)) ∧
    Below n₀ w0 (((((w.setCell ⟨r, 0, none⟩ y0).setCell ⟨r, 1, none⟩ y1).setCell ⟨r, 2, none⟩ y2).setCell ⟨r, 3, none⟩ y3).setCell ⟨d, 0, none⟩ z) ∧
    ∀ k, k < w.heap.size → k ≠ r → k ≠ d → (((((w.setCell ⟨r, 0, none⟩ y0).setCell ⟨r, 1, none⟩ y1).setCell ⟨r, 2, none⟩ y2).setCell ⟨r, 3, none⟩ y3).setCell ⟨d, 0, none⟩ z).heap[k]? = w.heap[k]? := by
  have a := put_four h1 y0 y1 y2 y3
  have g := grown_four w r y0 y1 y2 y3
  have ld := (Array.getElem?_eq_some_iff.1 h2).1
  have b := (g.block d ld (fun e => ne (by cases e; rfl))).trans h2
  refine ⟨(Below.heap_setCell _ ⟨d, 0, none⟩ z r ne).trans a, ?_, ?_, fun k hk n1 n2 => ?_⟩
  · rw [set_block b]; rfl
  · exact ((((hb.setCell (p := ⟨r, 0, none⟩) l1 _).setCell (p := ⟨r, 1, none⟩) l1 _).setCell (p := ⟨r, 2, none⟩) l1 _).setCell (p := ⟨r, 3, none⟩) l1 _).setCell (p := ⟨d, 0, none⟩) l2 _
  · exact (Below.heap_setCell _ ⟨d, 0, none⟩ z k n2).trans (g.block k hk (fun e => n1 (by cases e; rfl)))
/-- A core that is out of range makes no right form. -/
theorem sh_unfit {F : Fv} {m : Int} {j : Nat} (h : j < F.cs.length) (hl : F.cs.length = F.cn) (n : ¬ Fit (cg F.cs F.P F.N (-m + (j : Int)))) : ¬ (shF F m).Rt := fun r => by
  have hj : j < (shCs F.cs F.P F.N m).length := by rw [shCs_len]; exact h
  have := r.core _ (List.getElem_mem (l := (shF F m).cs) (n := j) hj)
  have e : (shF F m).cs[j]'hj = cg F.cs F.P F.N (-m + (j : Int)) := sh_get h
  rw [e] at this
  exact n (fit_good this)
theorem sh_index {F : Fv} {m : Int} {i : Nat} (h : i < F.os.length) (n : ¬ InR (F.os[i].1 + m)) : ¬ (shF F m).Rt := fun r => by
  have hj : i < (shOs F.os m).length := by unfold shOs; rw [List.length_map]; exact h
  have := (r.odd.good _ (List.getElem_mem (l := (shF F m).os) (n := i) hj)).2
  have e : (shF F m).os[i]'hj = (F.os[i].1 + m, F.os[i].2) := by show (shOs F.os m)[i]'hj = _; simp [shOs]
  rw [e] at this
  exact n this
end Go.Proofs.Ytmjapbjjfhmohaa
