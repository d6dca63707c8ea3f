/- Contracts: Is, of canon. -/
import Derived.Test.YtkhnoikdfelheaaM7
import Derived.Test.YtkhnoikdfelheaaK2
import Derived.BigQuiet
namespace Go.Proofs.Ytkhnoikdfelheaa
set_option linter.unusedVariables false
set_option linter.unusedSimpArgs false
open Go.ChangeShapes Go.WideShapes Go.ChangeAt Go.RowKit
theorem quiet_cls {id : Nat} {P : Program} {W : World} {Q : Exit → Act → World → Prop} {a : Act} {w : World} {lst : List Oper} (hm : P.follows .mixedOrders = true) (hB : Region.lexB .any lst.toArray = true) (hC : Below W.heap.size W w)
    (h : wpQuiet P lst.toArray (fun w' => ∃ p : Cls W, w' = p.w) (fun a' => ∀ w', (∃ p : Cls W, w' = p.w) → Q .normal a' w') lst a) : (Code.region id lst.toArray true).wp P Q a w :=
  wp_region_quiet (C := fun w' => ∃ p : Cls W, w' = p.w) hm hB ⟨⟨w.drew, hC.drew⟩, rfl⟩ (by simpa using h)
theorem cls_callP {P : Program} {W : World} {p : Cls W} {f : FuncId} {args : Array Value} {v : Value} (h : Calls P f args p.w fun e w' => e = .returned v ∧ Below p.w.heap.size p.w w') : Calls P f args p.w fun e w'' => e = .returned v ∧ ∃ q : Cls W, w'' = q.w :=
  h.mono fun _ w'' ⟨he, hb⟩ => ⟨he, ⟨w'', p.h.trans (hb.mono p.h.size)⟩, rfl⟩
theorem turn_is (F : Fv) (w : World) (hF : F.At w) (ok : F.Ok) (d : Nat) (hd : IsTurn F.cs F.P F.N d) : Calls Try.prog 25 #[F.v] w fun e w' => e = .returned (.int .i64 (d : Int)) ∧ Below w.heap.size w w' :=
  (turn_any F w hF ok).mono fun e w' ⟨d', he, h1, h2⟩ => ⟨by rw [he, isTurn_unique hd h1], h2⟩
set_option maxHeartbeats 2000000 in
theorem is_right (F : Fv) (w : World) (hF : F.At w) (ok : F.Ok) (hr19 : ∀ W, F.At W → Calls Try.prog 19 #[F.v] W fun e w' => e = .returned (.int .i64 0) ∧ Below W.heap.size W w') (r : Bool) (hr : r = true ↔ IsTurn F.cs F.P F.N F.cn ∧ ∀ o ∈ F.os, o.2 ≠ cg F.cs F.P F.N o.1) :
    Calls Try.prog 14 #[F.v] w fun e w' => e = .returned (.bool r) ∧ Below w.heap.size w w' := by
  obtain ⟨d, hd⟩ := isTurn_ex (cs := F.cs) (P := F.P) (N := F.N) (meas_full ok.meas hF.core.len)
  have hN : F.N = (F.cn : Int) := by
    rcases ok.meas with ⟨h1, _, h2⟩ | ⟨_, h, _⟩ <;> omega
  have hdN : (d : Int) = F.N ↔ IsTurn F.cs F.P F.N F.cn := by
    rw [hN]
    constructor
    · intro h
      have : d = F.cn := by omega
      rw [hN] at hd
      rw [← this]; exact this ▸ hd
    · intro h
      rw [hN] at hd
      rw [isTurn_unique hd h]
  obtain ⟨r2, hr2⟩ : ∃ r : Bool, r = true ↔ ∃ o ∈ F.os, o.2 = cg F.cs F.P F.N o.1 := by classical exact ⟨decide _, decide_eq_true_iff⟩
  have HR := Lib.hid (hr.trans (and_congr hdN.symm (⟨fun h ⟨o, ho, he⟩ => h o ho he, fun h o ho he => h ⟨o, ho, he⟩⟩ : (∀ o ∈ F.os, o.2 ≠ cg F.cs F.P F.N o.1) ↔ ¬ ∃ o ∈ F.os, o.2 = cg F.cs F.P F.N o.1)))
  have HR2 := Lib.hid hr2
  have H19 := Lib.hid hr19
  have HTU := Lib.hid (fun W (h : F.At W) => turn_is F W h ok d hd)
  have hdle : (d : Int) ≤ 9223372036854775807 := by
    rcases hd with ⟨h, _⟩ | ⟨⟨l, hl, _⟩, h, _⟩
    · omega
    · rcases meas_full ok.meas hF.core.len with q | q
      · have := turn_le q h; have := ok.cn; have := hF.core.len; omega
      · rw [q] at hl; cases hl
  have HCU := Lib.hid (fun (W : World) (b : Nat) (h : Fbox F w W b) => containsUsual_any F w W b h ok r2 hr2)
  have hF0 := hF
  clear hr hr2 hr19 hd hdN ok hN
  obtain ⟨P, N, co, cn, cc, oo, on, oc, cs, os⟩ := F
  obtain ⟨b, hb⟩ : ∃ b, w.heap.size = b := ⟨_, rfl⟩
  obtain ⟨wb, hwb⟩ : ∃ wb, w.alloc (.cells #[.int .i64 P, .int .i64 N, .slice co cn cc, .slice oo on oc] 25) = wb := ⟨_, rfl⟩
  have HBB : Hid (Fbox ⟨P, N, co, cn, cc, oo, on, oc, cs, os⟩ w wb b) := Lib.hid (by rw [← hwb, ← hb]; exact fbox_new hF0)
  have HR : Hid (r = true ↔ (d : Int) = N ∧ ¬ ∃ o ∈ os, o.2 = cg cs P N o.1) := HR
  have H19 : Hid (∀ p : Cls wb, Calls Try.prog 19 #[.agg #[.int .i64 P, .int .i64 N, .slice co cn cc, .slice oo on oc]] p.w fun e w' => e = .returned (.int .i64 0) ∧ Below p.w.heap.size p.w w') := Lib.hid (fun p => H19.out _ (HBB.out.at_.keep p.h))
  have HTU : Hid (∀ p : Cls wb, Calls Try.prog 25 #[.agg #[.int .i64 P, .int .i64 N, .slice co cn cc, .slice oo on oc]] p.w fun e w' => e = .returned (.int .i64 (d : Int)) ∧ Below p.w.heap.size p.w w') := Lib.hid (fun p => HTU.out _ (HBB.out.at_.keep p.h))
  have HCU : Hid (∀ (W : World) (b : Nat), Fbox ⟨P, N, co, cn, cc, oo, on, oc, cs, os⟩ w W b → Calls Try.prog 34 #[.slice oo on oc, .func (.func 35) #[] #[.pointer (some ⟨b, 0, none⟩)]] W fun e w' => e = .returned (.bool r2) ∧ Below W.heap.size W w') := HCU
  clear hF hF0
  show Calls Try.prog 14 #[.agg #[.int .i64 P, .int .i64 N, .slice co cn cc, .slice oo on oc]] w _
  go_enter Try.func14, Try.ntmps14
  go_upto_region 1 with fail
  clear hwb hb
  have e0 := fun p : Cls wb => cell_keep HBB.out.c0 p.h
  have e1 := fun p : Cls wb => cell_keep HBB.out.c1 p.h
  have e2 := fun p : Cls wb => cell_keep HBB.out.c2 p.h
  have e3 := fun p : Cls wb => cell_keep HBB.out.c3 p.h
  dsimp only at e0 e1 e2 e3
  by_cases hdn : (d : Int) = N
  · have t1 : ((d : Int) != N) = false := by simp; exact hdn
    have HF : Hid ((!r2) = r) := Lib.hid (by
      cases r <;> cases r2
      · exact absurd (HR.out.2 ⟨hdn, fun h => by have := HR2.out.2 h; cases this⟩) (by simp)
      · rfl
      · rfl
      · exact absurd (HR2.out.1 rfl) (HR.out.1 rfl).2)
    clear hdn
    refine quiet_cls (W := wb) (by kernel_rfl) (by kernel_rfl) (Below.refl _ _) ?_
    repeat (go_big_quiet_step (first | exact cls_callP (H19.out _) | exact cls_callP (HTU.out _)))
    refine wpQuiet_nil ?_
    rintro w4 ⟨⟨_, hw4⟩, rfl⟩
    try dsimp only
    have HB4 := Lib.hid (HBB.out.keep hw4)
    clear hw4 e0 e1 e2 e3
    have e3 : w4.cell? ⟨b, 3, none⟩ = some (.slice oo on oc) := HB4.out.c3
    go_wp2_with fail
    (with_reducible refine (HCU.out _ _ HB4.out).mono ?_)
    rintro e w5 ⟨rfl, q5⟩
    have HB5 := Lib.hid (HB4.out.keep q5)
    clear q5 e3
    go_wp2
    go_returns
    exact ⟨ret_bool HF.out, HB5.out.bw⟩
  · have t1 : ((d : Int) != N) = true := by simp; exact hdn
    have HF : Hid (false = r) := Lib.hid (by
      cases r
      · rfl
      · exact absurd (HR.out.1 rfl).1 hdn)
    clear hdn
    refine quiet_cls (W := wb) (by kernel_rfl) (by kernel_rfl) (Below.refl _ _) ?_
    repeat (go_big_quiet_step (first | exact cls_callP (H19.out _) | exact cls_callP (HTU.out _)))
    refine wpQuiet_nil ?_
    rintro w4 ⟨⟨_, hw4⟩, rfl⟩
    try dsimp only
    have HB4 := Lib.hid (HBB.out.keep hw4)
    clear hw4 e0 e1 e2 e3
    go_wp2
    go_returns
    exact ⟨ret_bool HF.out, HB4.out.bw⟩
end Go.Proofs.Ytkhnoikdfelheaa
