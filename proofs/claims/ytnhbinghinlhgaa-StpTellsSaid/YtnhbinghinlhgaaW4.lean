/- Contracts: the document's Way. -/
import Derived.Test.YtnhbinghinlhgaaW3
import Derived.Test.YtnhbinghinlhgaaSame
namespace Go.Proofs.Ytnhbinghinlhgaa
set_option linter.unusedVariables false
set_option linter.unusedSimpArgs false
open Go.ChangeShapes Go.WideShapes Go.ChangeAt Go.RowKit
theorem info4 : (Try.prog.info? 4).map (fun i => (i.zero, i.size, i.bytes)) = some (some (.bool false), 1, 1) := by kernel_rfl
theorem met_zero {w w1 : World} {n : Nat} (h : w1.ownsRow w.heap.size 4 1 (.slice (some ⟨w.heap.size, 0, none⟩) n n) n (madeCells (Value.bool false).cells (n * 1)).toList) : MetAt w1 w.heap.size n (fun _ => false) := by
  have hc := h
  refine ⟨fun t ht => ?_, fun t => ?_, (h.lt w.heap.size rfl).2⟩
  · have := hc.cells (g := w.heap.size) rfl t (.bool false) (by
      rw [List.getElem?_eq_getElem (by simp [size_madeCells]; exact ht)]
      simp [madeCells, Value.cells, Nat.mod_one])
    rw [add_off, Nat.zero_add] at this
    exact this
  · rcases h.2 with ⟨h1, _⟩ | ⟨g', cap', cur, h1, h2, h3, h4, h5, h6⟩
    · cases h1
    · cases h1
      unfold World.frozen?
      simp [h3]
set_option maxRecDepth 100000 in
set_option maxHeartbeats 4000000 in
theorem way_nums (g o n k : Nat) (b p c : Nat → Nat) (M : Mat) (hn : n ≤ 24) (hk : n ≤ k) (hk' : k ≤ 9223372036854775807) (hM : Fits n M) (u t : Nat) (hu : u < n) (ht : t < n) (w : World) (hw : NetAt w g o n b p c M) (rx ry : Int) (hR : infOf (way n M u t) = rx ∧ numOf (way n M u t) = ry) :
    Calls Try.prog 32 #[.slice (some ⟨g, o, none⟩) n k, .int .i64 u, .int .i64 t] w fun e w' => e = .returned (.agg #[.int .i8 rx, .int .i64 ry]) ∧ Below w.heap.size w w' := by
  obtain ⟨i0, hi, hz0, hz1, hz2⟩ := info_parts info4
  have HI := Lib.hid hi
  have HZ0 := Lib.hid hz0
  have HZ1 := Lib.hid hz1
  have HZ2 := Lib.hid hz2
  have HW := Lib.hid hw
  have HRR := Lib.hid hR
  obtain ⟨w0, hw0⟩ : ∃ q, w.alloc (.cells #[.int .i8 0, .int .i64 0] 26) = q := ⟨_, rfl⟩
  obtain ⟨x, hx⟩ : ∃ q, w0.heap.size = q := ⟨_, rfl⟩
  have hgx : g < w.heap.size := cell_here (hw.row u hu)
  have hbx : ∀ i, i < n → b i < w.heap.size := fun i hi => cell_here ((hw.cells i hi).inf t ht)
  have hwx : w.heap.size < x := by rw [← hx, ← hw0]; simp
  have HC := Lib.hid (show cnt (meet (fun _ => false) u) n < n by have := cnt_one u n hu; omega)
  have L := Lib.hid (fun w' hw' hm' => least_net g o n k x b p c M hn hk hk' hM (by omega) (fun i hi => by have := hbx i hi; omega) n (meet (fun _ => false) u) u t w' HC.out (Nat.le_refl n) hu ht hw' hm')
  have B0 := BoxAt.new w (some 0)
  have K0 := (Below.refl _ w).alloc (Nat.le_refl _) (.cells #[.int .i8 0, .int .i64 0] 26)
  rw [show (w.alloc (.cells #[.int .i8 (infOf (some 0)), .int .i64 (numOf (some 0))] 26)) = w0 from hw0] at B0
  rw [hw0] at K0
  obtain ⟨p8, hp8⟩ : ∃ q, w.heap.size = q := ⟨_, rfl⟩
  rw [hp8] at B0
  have HP8 := Lib.hid hp8
  have HW0 := Lib.hid hw0
  have HX := Lib.hid hx
  have HWX := Lib.hid hwx
  have HB0 := Lib.hid B0
  have HK0 := Lib.hid K0
  have u0 : (0 : Int) ≤ (u : Int) := by omega
  have u1 : (u : Int) < (n : Int) := by omega
  clear hi hz0 hz1 hz2 hw hR hw0 hx hgx hbx hwx hM B0 K0 hp8
  go_enter Try.func32, Try.ntmps32
  go_upto_region 1 with fail
  rw [HW0.out, HP8.out]
  go_wp2_with (at_make; refine wpList_make_full _ rfl _ _ 66 rfl w0.heap.size 4 i0 (.bool false) 1 Try.underlying66 HI.out HZ0.out HZ1.out .i64 .i64 _ _ n rfl rfl rfl rfl (by rw [HZ2.out]; omega) (by unfold maxLen; omega) (Nat.le_refl _) ?_; intro w1 hown hgro; have HM1 := Lib.hid (met_zero hown); have HB1 := Lib.hid ((Below.refl _ w0).grown hgro (Nat.le_refl _) (fun k hk => by cases hk)); clear hown hgro; rw [HX.out] at HM1 ⊢; have m1 := HM1.out.cell u hu; have m2 := HM1.out.free u)
  have KP := Kept.put (x := x) w1 u (.bool true)
  have K1 := Lib.hid ((Kept.of (x := x) HB1.out).trans KP)
  have K2 := Lib.hid ((Kept.of (x := x) HK0.out).trans K1.out)
  have W1 := Lib.hid (((HW.out.keep HK0.out).keep HB1.out).kept KP (by have := cell_here (HW.out.row u hu); have := HWX.out; simp at *; omega) (fun i hi => by have := cell_here ((HW.out.cells i hi).inf t ht); have := HWX.out; simp at *; omega))
  have M1 := Lib.hid (HM1.out.put u hu true (T := meet (fun _ => false) u) (fun k hk => rfl))
  have L2 : Hid (Calls Try.prog 38 #[.slice (some ⟨g, o, none⟩) n k, .int .i64 u, .int .i64 t, .slice (some ⟨x, 0, none⟩) n n] (w1.setCell ⟨x, u, none⟩ (.bool true)) fun e w' => e = .returned (.agg #[.int .i8 rx, .int .i64 ry]) ∧ Hid (Kept x (w1.setCell ⟨x, u, none⟩ (.bool true)) w') ∧ Hid (MetAt w' x n (meet (fun _ => false) u))) := by
    have := L.out _ W1.out M1.out
    rw [← HRR.out.1, ← HRR.out.2]
    exact this
  have HP : Hid (p8 ≠ x) := Lib.hid (by have := HP8.out; have := HWX.out; omega)
  clear m1 m2 L KP
  (go_at_call 38; (with_reducible refine (L2.out).mono ?_); rintro e w2 ⟨rfl, K3, M3⟩)
  have B2 := HB0.out.kept (K1.out.trans K3.out) HP.out
  have c1 := B2.inf
  have c2 := B2.num
  have c3 := B2.f0
  have c4 := B2.f1
  have HB := (K2.out.trans K3.out).below (w := w) (Nat.le_of_lt HWX.out) (Nat.le_refl _)
  have HR := Lib.hid ((HB.setCell (p := ⟨p8, 0, none⟩) (Nat.le_of_eq HP8.out) (.int .i8 rx)).setCell (p := ⟨p8, 1, none⟩) (Nat.le_of_eq HP8.out) (.int .i64 ry))
  clear HB B2 L2
  go_wp2
  exact bodyPost_ret (v := .agg #[.int .i8 rx, .int .i64 ry]) (by simp [results, Try.results32, go_sem, c1, c2]) rfl ⟨rfl, HR.out⟩
theorem way_net (g o n k : Nat) (b p c : Nat → Nat) (M : Mat) (hn : n ≤ 24) (hk : n ≤ k) (hk' : k ≤ 9223372036854775807) (hM : Fits n M) (u t : Nat) (hu : u < n) (ht : t < n) (w : World) (hw : NetAt w g o n b p c M) :
    Calls Try.prog 32 #[.slice (some ⟨g, o, none⟩) n k, .int .i64 u, .int .i64 t] w fun e w' => e = .returned (.agg #[.int .i8 (infOf (way n M u t)), .int .i64 (numOf (way n M u t))]) ∧ Below w.heap.size w w' :=
  way_nums g o n k b p c M hn hk hk' hM u t hu ht w hw _ _ ⟨rfl, rfl⟩
end Go.Proofs.Ytnhbinghinlhgaa
