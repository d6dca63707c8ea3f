/- visit. -/
import Derived.Test.YtimjendkpjojoaaDoorV1
namespace Go.Proofs.YtimjendkpjojoaaDoor
set_option linter.unusedVariables false
set_option linter.unusedSimpArgs false
open Go.ChangeShapes Go.WideShapes Go.ChangeAt Go.RowKit
set_option maxRecDepth 8000 in
set_option maxHeartbeats 2000000 in
theorem visit_any {σ : Type} (step : σ → Pt → Int → σ × Bool) (I : σ → World → Prop) (K : FuncId) (caps : Array Value) (w0 : World) (hB : ∀ s W, I s W → Below w0.heap.size w0 W) (hK : ∀ s W W', I s W → Below W.heap.size W W' → I s W') (m : σ → Nat) (LIM : Nat) (hm : ∀ s p d, m (step s p d).1 ≤ m s + 1) (hS : StepOk step I K caps w0 m LIM) (hE : ∀ (args : Array Value) (w : World), (callFunc K args).run Tryd.prog w = .ok (.enter K args) w)
    (n : Nat) (v : Value) (F : Tour) (hF : ExAt w0 n v F) (s : σ) (W : World) (hL0 : m s + (F 1).length ≤ LIM) (hI : I s W) :
    Calls Tryd.prog 33 #[v, .func (.func K) #[] caps] W fun e W' => e = .returned (.tuple #[]) ∧ Hid (I (run step s (wl (F 1))).1 W') ∧ Hid (Kp W W') := by
  have HW := Lib.hid (fun (wb kb : Nat) (W : World) (HI : I s W) (HV : Vis K caps wb kb W) => (by have z := walk_any step I K caps w0 wb kb hB hK m LIM hm hS hE n v F hF 1 s W hL0 HI HV; rw [show wrap64 1 = 1 by unfold wrap64; omega] at z; exact z))
  obtain ⟨p, an, nn, nc, aa, ac, rfl, hh⟩ := hF.head
  have HK := Lib.hid hK
  have HI := Lib.hid hI
  clear hB hS hE hK hI hF hh hm hL0
  obtain ⟨bx, hbx⟩ : ∃ z, W.heap.size = z := ⟨_, rfl⟩
  obtain ⟨w1, hw1⟩ : ∃ z, (W.alloc (.cells #[.int .u8 p.op, .string p.nm, .slice an nn nc, .slice aa p.k ac] 25)).alloc (.cells #[.func (.func K) #[] caps] 65) = z := ⟨_, rfl⟩
  have KA : Hid (Below W.heap.size W w1) := Lib.hid (by rw [← hw1]; exact ((Below.refl _ W).alloc (Nat.le_refl _) _).alloc (by simp) _)
  have X1 : Hid (w1.heap[bx]? = some (.cells #[.int .u8 p.op, .string p.nm, .slice an nn nc, .slice aa p.k ac] 25 (0, 0))) := Lib.hid (by rw [← hw1, al_old _ _ (by simp; omega), ← hbx, al_new])
  have X2 : Hid (w1.heap[bx + 1]? = some (.cells #[.func (.func K) #[] caps] 65 (0, 0))) := Lib.hid (by rw [← hw1, show bx + 1 = (W.alloc (.cells #[.int .u8 p.op, .string p.nm, .slice an nn nc, .slice aa p.k ac] 25)).heap.size by simp; omega, al_new])
  go_enter Tryd.func33, Tryd.ntmps33
  go_upto_region 3 with fail
  obtain ⟨kb, hkb⟩ : ∃ z, w1.heap.size = z := ⟨_, rfl⟩
  obtain ⟨w2, hw2⟩ : ∃ z, w1.alloc (.cells #[.func (.func 47) #[] #[.pointer (some ⟨bx + 1, 0, none⟩), .pointer (some ⟨kb, 0, none⟩)]] 65) = z := ⟨_, rfl⟩
  rw [hkb, hw2]
  have KB : Below w1.heap.size w1 w2 := by rw [← hw2]; exact (Below.refl _ w1).alloc (Nat.le_refl _) _
  have X3 : Hid (w2.heap[kb]? = some (.cells #[.func (.func 47) #[] #[.pointer (some ⟨bx + 1, 0, none⟩), .pointer (some ⟨kb, 0, none⟩)]] 65 (0, 0))) := Lib.hid (by rw [← hw2, ← hkb]; exact al_new w1 _)
  have X1 := Lib.hid ((KB.block bx (Array.getElem?_eq_some_iff.1 X1.out).1).trans X1.out)
  have X2 := Lib.hid ((KB.block (bx + 1) (Array.getElem?_eq_some_iff.1 X2.out).1).trans X2.out)
  have HI := Lib.hid (HK.out _ _ _ (HK.out _ _ _ HI.out KA.out) KB)
  have KK := Lib.hid ((Kp.of_below KA.out).trans (Kp.of_below KB))
  have HC := Lib.hid (HW.out (bx + 1) kb w2 HI.out ⟨X2.out, X3.out⟩)
  clear hw1 hw2 hbx hkb KB KA HW HI
  have e0 := cell_blk X1.out 0
  have e1 := cell_blk X1.out 1
  have e2 := cell_blk X1.out 2
  have e3 := cell_blk X1.out 3
  have e4 := cell_blk X3.out 0
  go_wp2_with fail
  (with_reducible refine HC.out.mono ?_)
  rintro e w3 ⟨rfl, HI, K3⟩
  have KK := Lib.hid (KK.out.trans K3.out)
  clear HC K3 e0 e1 e2 e3 e4
  go_wp2
  go_returns
  exact ⟨rfl, HI, KK⟩
end Go.Proofs.YtimjendkpjojoaaDoor
