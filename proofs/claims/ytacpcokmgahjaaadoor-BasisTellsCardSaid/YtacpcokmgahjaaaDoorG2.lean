/- Contracts: Small, repeats, measured. -/
import Derived.Test.YtacpcokmgahjaaaDoorG1
namespace Go.Proofs.YtacpcokmgahjaaaDoor
set_option linter.unusedVariables false
set_option linter.unusedSimpArgs false
open Go.ChangeShapes Go.WideShapes Go.ChangeAt Go.RowKit
/-- Is there a core that can be counted through? -/
def Fv.Rep (F : Fv) : Prop := 0 < F.N ∧ F.N = F.cn
theorem repeats_any (F : Fv) (w : World) (hF : F.At w) (r : Bool) (hr : r = true ↔ F.Rep) :
    Calls Tryd.prog 58 #[F.v] w fun e w' => e = .returned (.bool r) ∧ Below w.heap.size w w' := by
  have HR := Lib.hid hr
  clear hr
  obtain ⟨P, N, co, cn, cc, oo, on, oc, cs, os⟩ := F
  have LC : Hid (cs.length = cn) := Lib.hid hF.core.len
  have LO : Hid (os.length = on) := Lib.hid hF.odd.len
  obtain ⟨b, hb⟩ : ∃ b, w.heap.size = b := ⟨_, rfl⟩
  obtain ⟨wb, hwb⟩ : ∃ wb, w.alloc (.cells #[.int .i64 P, .int .i64 N, .slice co cn cc, .slice oo on oc] 29) = wb := ⟨_, rfl⟩
  have HBB : Hid (Fbox ⟨P, N, co, cn, cc, oo, on, oc, cs, os⟩ w wb b) := Lib.hid (by rw [← hwb, ← hb]; exact fbox_new hF)
  clear hF
  show Calls Tryd.prog 58 #[.agg #[.int .i64 P, .int .i64 N, .slice co cn cc, .slice oo on oc]] w _
  go_enter Tryd.func58, Tryd.ntmps58
  go_upto_region 1 with fail
  clear hwb hb
  have HR : Hid (r = true ↔ 0 < N ∧ N = cn) := HR
  have e1 : wb.cell? ⟨b, 1, none⟩ = some (.int .i64 N) := HBB.out.c1
  have e2 : wb.cell? ⟨b, 2, none⟩ = some (.slice co cn cc) := HBB.out.c2
  by_cases h1 : 0 < N
  · by_cases h2 : N = cn
    · have t2 : (N == (cn : Int)) = true := by simp; exact h2
      have HE : Hid (true = r) := Lib.hid (HR.out.2 ⟨h1, h2⟩).symm
      clear h2
      go_wp2
      go_returns
      exact ⟨ret_bool (by rw [← HE.out]; (first | done | rfl | (simp; done) | (simp; omega))), HBB.out.bw⟩
    · have t2 : (N == (cn : Int)) = false := by simp; exact h2
      have HE : Hid (false = r) := Lib.hid (by cases r; rfl; exact absurd (HR.out.1 rfl).2 h2)
      go_wp2
      go_returns
      exact ⟨ret_bool (by rw [← HE.out]; (first | done | rfl | (simp; done) | (simp; omega))), HBB.out.bw⟩
  · have HE : Hid (false = r) := Lib.hid (by cases r; rfl; exact absurd (HR.out.1 rfl).1 h1)
    go_wp2
    go_returns
    exact ⟨ret_bool (by rw [← HE.out]; (first | done | rfl | (simp; done) | (simp; omega))), HBB.out.bw⟩
/-- Are Period and Count in range, and has the core as many sets? -/
def Fv.Meas (F : Fv) : Prop := (F.N = 0 ∧ F.P = 0 ∧ F.cn = 0) ∨ (F.N ≠ 0 ∧ F.N = F.cn ∧ 1 ≤ F.P ∧ F.P ≤ 1099511627776)
set_option maxHeartbeats 1000000 in
theorem measured_any (F : Fv) (w : World) (hF : F.At w) (r : Bool) (hr : r = true ↔ F.Meas) :
    Calls Tryd.prog 29 #[F.v] w fun e w' => e = .returned (.bool r) ∧ Below w.heap.size w w' := by
  have HR := Lib.hid hr
  clear hr
  obtain ⟨P, N, co, cn, cc, oo, on, oc, cs, os⟩ := F
  have LC : Hid (cs.length = cn) := Lib.hid hF.core.len
  have LO : Hid (os.length = on) := Lib.hid hF.odd.len
  obtain ⟨b, hb⟩ : ∃ b, w.heap.size = b := ⟨_, rfl⟩
  obtain ⟨wb, hwb⟩ : ∃ wb, w.alloc (.cells #[.int .i64 P, .int .i64 N, .slice co cn cc, .slice oo on oc] 29) = wb := ⟨_, rfl⟩
  have HBB : Hid (Fbox ⟨P, N, co, cn, cc, oo, on, oc, cs, os⟩ w wb b) := Lib.hid (by rw [← hwb, ← hb]; exact fbox_new hF)
  clear hF
  show Calls Tryd.prog 29 #[.agg #[.int .i64 P, .int .i64 N, .slice co cn cc, .slice oo on oc]] w _
  go_enter Tryd.func29, Tryd.ntmps29
  go_upto_region 1 with fail
  clear hwb hb
  have HR : Hid (r = true ↔ (N = 0 ∧ P = 0 ∧ cn = 0) ∨ (N ≠ 0 ∧ N = cn ∧ 1 ≤ P ∧ P ≤ 1099511627776)) := HR
  have e0 : wb.cell? ⟨b, 0, none⟩ = some (.int .i64 P) := HBB.out.c0
  have e1 : wb.cell? ⟨b, 1, none⟩ = some (.int .i64 N) := HBB.out.c1
  have e2 : wb.cell? ⟨b, 2, none⟩ = some (.slice co cn cc) := HBB.out.c2
  by_cases h0 : N = 0
  · subst h0
    by_cases h1 : P = 0
    · subst h1
      by_cases h2 : cn = 0
      · subst h2
        have HE : Hid (true = r) := Lib.hid (HR.out.2 (.inl ⟨rfl, rfl, rfl⟩)).symm
        go_wp2
        go_returns
        exact ⟨ret_bool (by rw [← HE.out]; (first | done | rfl | (simp; done) | (simp; omega))), HBB.out.bw⟩
      · have t2 : ((cn : Int) == 0) = false := by simp; omega
        have HE : Hid (false = r) := Lib.hid (by cases r; rfl; have := HR.out.1 rfl; omega)
        go_wp2
        go_returns
        exact ⟨ret_bool (by rw [← HE.out]; (first | done | rfl | (simp; done) | (simp; omega))), HBB.out.bw⟩
    · have t1 : (P == 0) = false := by simp; exact h1
      have HE : Hid (false = r) := Lib.hid (by cases r; rfl; have := HR.out.1 rfl; omega)
      go_wp2
      go_returns
      exact ⟨ret_bool (by rw [← HE.out]; (first | done | rfl | (simp; done) | (simp; omega))), HBB.out.bw⟩
  · have t0 : (N == 0) = false := by simp; exact h0
    by_cases h1 : N = cn
    · have t1 : (N == (cn : Int)) = true := by simp; exact h1
      by_cases h2 : 1 ≤ P
      · by_cases h3 : P ≤ 1099511627776
        · have HE : Hid (true = r) := Lib.hid (HR.out.2 (.inr ⟨h0, h1, h2, h3⟩)).symm
          clear h1
          go_wp2
          go_returns
          exact ⟨ret_bool (by rw [← HE.out]; (first | done | rfl | (simp; done) | (simp; omega))), HBB.out.bw⟩
        · have HE : Hid (false = r) := Lib.hid (by cases r; rfl; have := HR.out.1 rfl; omega)
          clear h1
          go_wp2
          go_returns
          exact ⟨ret_bool (by rw [← HE.out]; (first | done | rfl | (simp; done) | (simp; omega))), HBB.out.bw⟩
      · have HE : Hid (false = r) := Lib.hid (by cases r; rfl; have := HR.out.1 rfl; omega)
        clear h1
        go_wp2
        go_returns
        exact ⟨ret_bool (by rw [← HE.out]; (first | done | rfl | (simp; done) | (simp; omega))), HBB.out.bw⟩
    · have t1 : (N == (cn : Int)) = false := by simp; exact h1
      have HE : Hid (false = r) := Lib.hid (by cases r; rfl; have := HR.out.1 rfl; omega)
      go_wp2
      go_returns
      exact ⟨ret_bool (by rw [← HE.out]; (first | done | rfl | (simp; done) | (simp; omega))), HBB.out.bw⟩
end Go.Proofs.YtacpcokmgahjaaaDoor
