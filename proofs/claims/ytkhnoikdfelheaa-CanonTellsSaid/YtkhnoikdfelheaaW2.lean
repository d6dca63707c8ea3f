/- Contracts: gets, Weeks, right. -/
import Derived.Test.YtkhnoikdfelheaaW1
import Derived.Test.YtkhnoikdfelheaaC3
namespace Go.Proofs.Ytkhnoikdfelheaa
set_option linter.unusedVariables false
set_option linter.unusedSimpArgs false
open Go.ChangeShapes Go.WideShapes Go.ChangeAt Go.RowKit
theorem heap_at {w : World} {o : Obj} {b : Nat} (h : w.heap.size = b) : (w.alloc o).heap[b]? = some o := by subst h; exact heap_alloc_new w o
set_option maxHeartbeats 1000000 in
theorem weeks_any (w : World) : Calls Try.prog 22 #[] w fun e w' => ∃ co cc, e = .returned (weeksF 7 [] co cc none 0).v ∧ Hid (CoAt w' co 1 cc [[(0, 4)]]) ∧ Below w.heap.size w w' := by
  go_enter Try.func22, Try.ntmps22
  go_wp2
  obtain ⟨b, hb⟩ : ∃ b, w.heap.size = b := ⟨_, rfl⟩
  rw [hb]
  generalize hwf : ((w.alloc (.cells #[.int .i64 7, .int .i64 1, .slice (some ⟨b + 1 + 1, 0, none⟩) 1 1, .slice none 0 0] 25)).alloc (.cells #[.int .i64 0, .int .i64 4] 46)).alloc (.cells #[.slice (some ⟨b + 1, 0, none⟩) 1 1] 31) = wf
  have k0 : wf.heap[b]? = some (.cells #[.int .i64 7, .int .i64 1, .slice (some ⟨b + 1 + 1, 0, none⟩) 1 1, .slice none 0 0] 25 (0, 0)) := by
    rw [← hwf, ← hb, heap_alloc_old _ _ (by simp; omega), heap_alloc_old _ _ (by simp), heap_alloc_new]
  have k1 : wf.heap[b + 1]? = some (.cells #[.int .i64 0, .int .i64 4] 46 (0, 0)) := by
    rw [← hwf, heap_alloc_old _ _ (by simp; omega)]; exact heap_at (by simp; omega)
  have k2 : wf.heap[b + 1 + 1]? = some (.cells #[.slice (some ⟨b + 1, 0, none⟩) 1 1] 31 (0, 0)) := by
    rw [← hwf]; exact heap_at (by simp; omega)
  have HB : Hid (Below w.heap.size w wf) := Lib.hid (by rw [← hwf]; exact (((Below.refl _ w).alloc (Nat.le_refl _) _).alloc (by simp) _).alloc (by simp; omega) _)
  clear hwf
  have r0 : wf.cell? ⟨b, 0, none⟩ = some (.int .i64 7) := cell_block k0 0
  have r1 : wf.cell? ⟨b, 1, none⟩ = some (.int .i64 1) := cell_block k0 1
  have r2 : wf.cell? ⟨b, 2, none⟩ = some (.slice (some ⟨b + 1 + 1, 0, none⟩) 1 1) := cell_block k0 2
  have r3 : wf.cell? ⟨b, 3, none⟩ = some (.slice none 0 0) := cell_block k0 3
  have HC : Hid (CoAt wf (some ⟨b + 1 + 1, 0, none⟩) 1 1 [[(0, 4)]]) := Lib.hid (by
    refine ⟨rfl, Nat.le_refl _, by decide, (fun e => by cases e), fun _ => ⟨_, _, rfl, fun i hi => ?_⟩⟩
    obtain rfl : i = 0 := by simpa using hi
    refine ⟨_, _, _, cell_block k2 0, rfl, Nat.le_refl _, (show 1 ≤ 9223372036854775807 by decide), (fun e => by cases e), fun _ => ⟨_, _, rfl, fun j hj => ?_⟩⟩
    obtain rfl : j = 0 := by simpa using hj
    exact ⟨cell_block k1 0, cell_block k1 1⟩)
  exact bodyPost_ret (v := (weeksF 7 [] (some ⟨b + 1 + 1, 0, none⟩) 1 none 0).v) (by simp [results, Try.results22, go_sem, r0, r1, r2, r3]) rfl ⟨_, _, rfl, HC, by rw [← hb]; exact HB.out⟩
set_option maxHeartbeats 1000000 in
theorem right_any2 (F : Fv) (w : World) (hF : F.At w) (r : Bool) (hr : r = true ↔ F.Small ∧ F.Rt) :
    Calls Try.prog 8 #[F.v] w fun e w' => e = .returned (.bool r) ∧ Below w.heap.size w w' := by
  obtain ⟨s1, hs1⟩ : ∃ r : Bool, r = true ↔ F.Small := by classical exact ⟨decide _, decide_eq_true_iff⟩
  obtain ⟨s2, hs2⟩ : ∃ r : Bool, r = true ↔ F.Rt := by classical exact ⟨decide _, decide_eq_true_iff⟩
  have HC1 := Lib.hid (fun W (h : F.At W) => small_any F W h s1 hs1)
  have HC2 := Lib.hid (fun (q : s1 = true) W (h : F.At W) => right_small F W h (hs1.1 q) s2 hs2)
  have HN : Hid (r = (s1 && s2)) := Lib.hid (by
    have h : F.Small ∧ F.Rt ↔ (s1 && s2) = true := by rw [Bool.and_eq_true, hs1, hs2]
    have h2 := hr.trans h
    cases r <;> cases hq : (s1 && s2) <;> simp_all)
  clear hr hs1 hs2
  obtain ⟨P, N, co, cn, cc, oo, on, oc, cs, os⟩ := F
  have LC : Hid (cs.length = cn) := Lib.hid hF.core.len
  have LO : Hid (os.length = on) := Lib.hid hF.odd.len
  have hmc : cn ≤ 9223372036854775807 := Nat.le_trans hF.core.le hF.core.top
  have hmo : on ≤ 9223372036854775807 := Nat.le_trans hF.odd.le hF.odd.top
  obtain ⟨b, hb⟩ : ∃ b, w.heap.size = b := ⟨_, rfl⟩
  obtain ⟨wb, hwb⟩ : ∃ wb, w.alloc (.cells #[.int .i64 P, .int .i64 N, .slice co cn cc, .slice oo on oc] 25) = wb := ⟨_, rfl⟩
  have HBB : Hid (Fbox ⟨P, N, co, cn, cc, oo, on, oc, cs, os⟩ w wb b) := Lib.hid (by rw [← hwb, ← hb]; exact fbox_new hF)
  clear hF
  show Calls Try.prog 8 #[.agg #[.int .i64 P, .int .i64 N, .slice co cn cc, .slice oo on oc]] w _
  go_enter Try.func8, Try.ntmps8
  go_upto_region 1 with fail
  clear hwb hb
  have e0 : wb.cell? ⟨b, 0, none⟩ = some (.int .i64 P) := HBB.out.c0
  have e1 : wb.cell? ⟨b, 1, none⟩ = some (.int .i64 N) := HBB.out.c1
  have e2 : wb.cell? ⟨b, 2, none⟩ = some (.slice co cn cc) := HBB.out.c2
  have e3 : wb.cell? ⟨b, 3, none⟩ = some (.slice oo on oc) := HBB.out.c3
  have HC1 : Hid (∀ W, Fv.At ⟨P, N, co, cn, cc, oo, on, oc, cs, os⟩ W → Calls Try.prog 23 #[.agg #[.int .i64 P, .int .i64 N, .slice co cn cc, .slice oo on oc]] W fun e w' => e = .returned (.bool s1) ∧ Below W.heap.size W w') := HC1
  have HC2 : Hid (s1 = true → ∀ W, Fv.At ⟨P, N, co, cn, cc, oo, on, oc, cs, os⟩ W → Calls Try.prog 19 #[.agg #[.int .i64 P, .int .i64 N, .slice co cn cc, .slice oo on oc]] W fun e w' => e = .returned (.int .i64 (rcode s2)) ∧ Below W.heap.size W w') := HC2
  cases s1
  · have HE : Hid (false = r) := Lib.hid (by rw [HN.out]; rfl)
    go_wp2_with fail
    (with_reducible refine (HC1.out _ HBB.out.at_).mono ?_)
    rintro e w2 ⟨rfl, q⟩
    have HBB := Lib.hid (HBB.out.keep q)
    clear q e0 e1 e2 e3 HN
    go_wp2
    go_returns
    exact ⟨ret_bool HE.out, HBB.out.bw⟩
  · go_wp2_with fail
    (with_reducible refine (HC1.out _ HBB.out.at_).mono ?_)
    rintro e w2 ⟨rfl, q⟩
    have HBB := Lib.hid (HBB.out.keep q)
    clear q e0 e1 e2 e3
    have e0 : w2.cell? ⟨b, 0, none⟩ = some (.int .i64 P) := HBB.out.c0
    have e1 : w2.cell? ⟨b, 1, none⟩ = some (.int .i64 N) := HBB.out.c1
    have e2 : w2.cell? ⟨b, 2, none⟩ = some (.slice co cn cc) := HBB.out.c2
    have e3 : w2.cell? ⟨b, 3, none⟩ = some (.slice oo on oc) := HBB.out.c3
    go_wp2_with fail
    (with_reducible refine (HC2.out (by first | rfl | trivial) _ HBB.out.at_).mono ?_)
    rintro e w3 ⟨rfl, q⟩
    have HBB := Lib.hid (HBB.out.keep q)
    clear q e0 e1 e2 e3
    cases s2
    · have HE : Hid (false = r) := Lib.hid (by rw [HN.out]; rfl)
      have t1 : (rcode false == 0) = false := by decide
      clear HN
      go_wp2
      go_returns
      exact ⟨ret_bool HE.out, HBB.out.bw⟩
    · have HE : Hid (true = r) := Lib.hid (by rw [HN.out]; rfl)
      have t1 : (rcode true == 0) = true := by decide
      clear HN
      go_wp2
      go_returns
      exact ⟨ret_bool HE.out, HBB.out.bw⟩
end Go.Proofs.Ytkhnoikdfelheaa
