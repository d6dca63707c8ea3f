/- Contracts: gets, Weeks, right. -/
import Derived.Test.YtaobhhgalkkmaaaW1
import Derived.Test.YtaobhhgalkkmaaaC3
namespace Go.Proofs.Ytaobhhgalkkmaaa
set_option linter.unusedVariables false
set_option linter.unusedSimpArgs false
open Go.ChangeShapes Go.WideShapes Go.ChangeAt Go.RowKit
theorem heap_at {w : World} {o : Obj} {b : Nat} (h : w.heap.size = b) : (w.alloc o).heap[b]? = some o := by subst h; exact heap_alloc_new w o
set_option maxHeartbeats 1000000 in
theorem weeks_any (w : World) : Calls Try.prog 21 #[] w fun e w' => ∃ co cc, e = .returned (weeksF 7 [] co cc none 0).v ∧ Hid (CoAt w' co 1 cc [[(0, 4)]]) ∧ Below w.heap.size w w' := by
  go_enter Try.func21, Try.ntmps21
  go_wp2
  obtain ⟨b, hb⟩ : ∃ b, w.heap.size = b := ⟨_, rfl⟩
  rw [hb]
  generalize hwf : ((w.alloc (.cells #[.int .i64 7, .int .i64 1, .slice (some ⟨b + 1 + 1, 0, none⟩) 1 1, .slice none 0 0] 25)).alloc (.cells #[.int .i64 0, .int .i64 4] 65)).alloc (.cells #[.slice (some ⟨b + 1, 0, none⟩) 1 1] 58) = wf
  have k0 : wf.heap[b]? = some (.cells #[.int .i64 7, .int .i64 1, .slice (some ⟨b + 1 + 1, 0, none⟩) 1 1, .slice none 0 0] 25 (0, 0)) := by
    rw [← hwf, ← hb, heap_alloc_old _ _ (by simp; omega), heap_alloc_old _ _ (by simp), heap_alloc_new]
  have k1 : wf.heap[b + 1]? = some (.cells #[.int .i64 0, .int .i64 4] 65 (0, 0)) := by
    rw [← hwf, heap_alloc_old _ _ (by simp; omega)]; exact heap_at (by simp; omega)
  have k2 : wf.heap[b + 1 + 1]? = some (.cells #[.slice (some ⟨b + 1, 0, none⟩) 1 1] 58 (0, 0)) := by
    rw [← hwf]; exact heap_at (by simp; omega)
  have HB : Hid (Below w.heap.size w wf) := Lib.hid (by rw [← hwf]; exact (((Below.refl _ w).alloc (Nat.le_refl _) _).alloc (by simp) _).alloc (by simp; omega) _)
  clear hwf
  have r0 : wf.cell? ⟨b, 0, none⟩ = some (.int .i64 7) := cell_block k0 0
  have r1 : wf.cell? ⟨b, 1, none⟩ = some (.int .i64 1) := cell_block k0 1
  have r2 : wf.cell? ⟨b, 2, none⟩ = some (.slice (some ⟨b + 1 + 1, 0, none⟩) 1 1) := cell_block k0 2
  have r3 : wf.cell? ⟨b, 3, none⟩ = some (.slice none 0 0) := cell_block k0 3
  have HC : Hid (CoAt wf (some ⟨b + 1 + 1, 0, none⟩) 1 1 [[(0, 4)]]) := Lib.hid (by
    refine ⟨rfl, Nat.le_refl _, by decide, (fun e => by cases e), fun _ => ⟨_, _, rfl, fun i hi => ?_⟩⟩
    obtain rfl : i = 0 := by simpa using hi
    refine ⟨_, _, _, cell_block k2 0, rfl, Nat.le_refl _, (show 1 ≤ 9223372036854775807 by decide), (fun e => by cases e), fun _ => ⟨_, _, rfl, fun j hj => ?_⟩⟩
    obtain rfl : j = 0 := by simpa using hj
    exact ⟨cell_block k1 0, cell_block k1 1⟩)
  exact bodyPost_ret (v := (weeksF 7 [] (some ⟨b + 1 + 1, 0, none⟩) 1 none 0).v) (by simp [results, Try.results21, go_sem, r0, r1, r2, r3]) rfl ⟨_, _, rfl, HC, by rw [← hb]; exact HB.out⟩
end Go.Proofs.Ytaobhhgalkkmaaa
