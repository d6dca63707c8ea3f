/- V4 in one. -/
import Derived.Test.YtimjendkpjojoaaGreatDoorKe
import Derived.Test.YtimjendkpjojoaaGreatDoorKf
namespace Go.Proofs.YtimjendkpjojoaaGreatDoor
set_option linter.unusedVariables false
set_option linter.unusedSimpArgs false
open Go.ChangeShapes Go.WideShapes Go.ChangeAt Go.RowKit
theorem fits_any (p : Pt) (an : Option Addr) (nn nc : Nat) (aa : Option Addr) (ac : Nat) (w : World) (hT : Tabn w) {w0 : World} (hh : HdAt w0 p an nn nc aa ac) (r : Bool) (hr : r = true ↔ FitP p) :
    Calls Tryz.prog 23 #[.agg #[.int .u8 p.op, .string p.nm, .slice an nn nc, .slice aa p.k ac]] w fun e w' => e = .returned (.bool r) ∧ Below w.heap.size w w' := by
  have hn := hh.nums.len
  have h1 := hh.nums.le
  have h2 := hh.nums.top
  have h3 := hh.le
  have h4 := hh.top
  have o1 := hh.o1
  by_cases c : 12 < p.op
  · obtain rfl : r = false := by
      cases r
      · rfl
      · have := (hr.1 rfl).op; omega
    exact fits_op p.op p.nm an nn nc aa p.k ac w hT c
  · obtain ⟨i, hi⟩ := Int.eq_ofNat_of_zero_le o1
    rw [hi]
    refine fits_in i (by omega) p.nm an nn nc aa p.k ac w hT (by omega) (by omega) r (hr.trans ⟨fun h => ⟨?_, ?_, ?_⟩, fun h => ⟨by omega, ?_, ?_, ?_⟩⟩)
    · have := h.nums; rw [hi, Int.toNat_natCast, hn] at this; exact this
    · have := h.args; rw [hi, Int.toNat_natCast] at this; exact this
    · have := h.name; rw [hi] at this
      by_cases z : i = 0
      · rw [if_pos z]; rw [if_pos (by omega)] at this; exact this
      · rw [if_neg z]; rw [if_neg (by omega)] at this; exact this
    · rw [hi, Int.toNat_natCast, hn]; exact h.1
    · rw [hi, Int.toNat_natCast]; exact h.2.1
    · have := h.2.2
      rw [hi]
      by_cases z : i = 0
      · rw [if_pos z] at this; rw [if_pos (by omega)]; exact this
      · rw [if_neg z] at this; rw [if_neg (by omega)]; exact this
noncomputable def fitB (p : Pt) : Bool := @decide (FitP p) (Classical.propDecidable _)
theorem fitB_iff (p : Pt) : fitB p = true ↔ FitP p := by
  unfold fitB
  exact @decide_eq_true_iff _ (Classical.propDecidable _)
noncomputable def rStep (s : Int × Bool) (p : Pt) (d : Int) : (Int × Bool) × Bool :=
  ((wrap64 (s.1 + 1), decide (wrap64 (s.1 + 1) ≤ 2000) && (decide (d ≤ 40) && fitB p)), decide (wrap64 (s.1 + 1) ≤ 2000) && (decide (d ≤ 40) && fitB p))
/-- The parts of a right expression. -/
def RightL (l : List (Pt × Int)) : Prop := l.length ≤ 2000 ∧ ∀ x ∈ l, x.2 ≤ 40 ∧ FitP x.1
theorem r_run : ∀ (l : List (Pt × Int)) (c : Int), 0 ≤ c → c ≤ 2000 → ((run rStep (c, true) l).1.2 = true ↔ c + l.length ≤ 2000 ∧ ∀ x ∈ l, x.2 ≤ 40 ∧ FitP x.1)
  | [], c, h0, h1 => by simp [run]; omega
  | x :: r, c, h0, h1 => by
    have hw : wrap64 (c + 1) = c + 1 := by unfold wrap64; omega
    have e1 : rStep (c, true) x.1 x.2 = ((c + 1, decide (c + 1 ≤ 2000) && (decide (x.2 ≤ 40) && fitB x.1)), decide (c + 1 ≤ 2000) && (decide (x.2 ≤ 40) && fitB x.1)) := by
      unfold rStep; simp only [hw]
    cases q : (decide (c + 1 ≤ 2000) && (decide (x.2 ≤ 40) && fitB x.1))
    · rw [run_f (by rw [e1]; exact q), e1, q]
      simp only [Bool.false_eq_true, false_iff]
      rintro ⟨a, b⟩
      have hb := b x (by simp)
      have : (decide (c + 1 ≤ 2000) && (decide (x.2 ≤ 40) && fitB x.1)) = true := by
        simp only [Bool.and_eq_true, decide_eq_true_eq]
        refine ⟨?_, hb.1, (fitB_iff _).2 hb.2⟩
        simp at a; omega
      rw [q] at this; cases this
    · rw [run_t (by rw [e1]; exact q), e1, q]
      simp only [Bool.and_eq_true, decide_eq_true_eq] at q
      show ((run rStep (c + 1, true) r).1.2 = true ↔ _)
      rw [r_run r (c + 1) (by omega) q.1]
      have hb := (fitB_iff _).1 q.2.2
      constructor
      · rintro ⟨a, b⟩
        refine ⟨by simp; omega, fun y hy => ?_⟩
        rcases List.mem_cons.1 hy with rfl | hy
        · exact ⟨q.2.1, hb⟩
        · exact b y hy
      · rintro ⟨a, b⟩
        exact ⟨by simp at a; omega, fun y hy => b y (List.mem_cons_of_mem _ hy)⟩
/-- Two cells of a visitor's own: a number, and whether. -/
structure CellIB (w0 : World) (nb rb : Nat) (s : Int × Bool) (W : World) : Prop where
  bw : Below w0.heap.size w0 W
  lo : w0.heap.size ≤ nb
  lo2 : w0.heap.size ≤ rb
  ne : nb ≠ rb
  c1 : W.heap[nb]? = some (.cells #[.int .i64 s.1] 3 (0, 0))
  c2 : W.heap[rb]? = some (.cells #[.bool s.2] 4 (0, 0))
  tab : Tabn W
theorem CellIB.keep {w0 W W' : World} {nb rb : Nat} {s : Int × Bool} (h : CellIB w0 nb rb s W) (q : Below W.heap.size W W') : CellIB w0 nb rb s W' :=
  ⟨h.bw.trans (q.mono h.bw.size), h.lo, h.lo2, h.ne, (q.block nb (Array.getElem?_eq_some_iff.1 h.c1).1).trans h.c1, (q.block rb (Array.getElem?_eq_some_iff.1 h.c2).1).trans h.c2, h.tab.keep q⟩
theorem tab_old {w0 W : World} (h : Tabn w0) (q : Below w0.heap.size w0 W) : Tabn W := h.keep q
theorem CellIB.put1 {w0 W : World} {nb rb : Nat} {s : Int × Bool} (hT : Tabn w0) (h : CellIB w0 nb rb s W) (x : Int) : CellIB w0 nb rb (x, s.2) (W.setCell ⟨nb, 0, none⟩ (.int .i64 x)) := by
  have b := h.bw.setCell (p := ⟨nb, 0, none⟩) h.lo (.int .i64 x)
  exact ⟨b, h.lo, h.lo2, h.ne, by rw [set_block h.c1]; rfl, (Below.heap_setCell _ _ _ _ (fun e => h.ne e.symm)).trans h.c2, hT.keep b⟩
theorem CellIB.put2 {w0 W : World} {nb rb : Nat} {s : Int × Bool} (hT : Tabn w0) (h : CellIB w0 nb rb s W) (x : Bool) : CellIB w0 nb rb (s.1, x) (W.setCell ⟨rb, 0, none⟩ (.bool x)) := by
  have b := h.bw.setCell (p := ⟨rb, 0, none⟩) h.lo2 (.bool x)
  exact ⟨b, h.lo, h.lo2, h.ne, (Below.heap_setCell _ _ _ _ (fun e => h.ne e)).trans h.c1, by rw [set_block h.c2]; rfl, hT.keep b⟩
set_option maxHeartbeats 2000000 in
theorem right_step (w0 : World) (hT : Tabn w0) (nb rb : Nat) (LIM : Nat) : StepOk rStep (CellIB w0 nb rb) 22 #[.pointer (some ⟨nb, 0, none⟩), .pointer (some ⟨rb, 0, none⟩)] w0 (fun _ => 0) LIM := by
  intro s W p an nn nc aa ac d hh d1 d2 hI _
  show Calls Tryz.prog 22 #[.agg #[.int .u8 p.op, .string p.nm, .slice an nn nc, .slice aa p.k ac], .int .i64 d, .pointer (some ⟨nb, 0, none⟩), .pointer (some ⟨rb, 0, none⟩)] W _
  obtain ⟨c, r0⟩ := s
  obtain ⟨bx, hbx⟩ : ∃ z, W.heap.size = z := ⟨_, rfl⟩
  obtain ⟨w1, hw1⟩ : ∃ z, W.alloc (.cells #[.int .u8 p.op, .string p.nm, .slice an nn nc, .slice aa p.k ac] 25) = z := ⟨_, rfl⟩
  have KA : Below W.heap.size W w1 := by rw [← hw1]; exact (Below.refl _ W).alloc (Nat.le_refl _) _
  have HX : Hid (w1.heap[bx]? = some (.cells #[.int .u8 p.op, .string p.nm, .slice an nn nc, .slice aa p.k ac] 25 (0, 0))) := Lib.hid (by rw [← hw1, ← hbx, al_new])
  have HI := Lib.hid (hI.keep KA)
  have KK := Lib.hid (Kp.of_below KA)
  have HT := Lib.hid hT
  have HFT := Lib.hid (fun W (h : Tabn W) => fits_any p an nn nc aa ac W h hh (fitB p) (fitB_iff p))
  have HST : Hid (rStep (c, r0) p d = ((wrap64 (c + 1), decide (wrap64 (c + 1) ≤ 2000) && (decide (d ≤ 40) && fitB p)), decide (wrap64 (c + 1) ≤ 2000) && (decide (d ≤ 40) && fitB p))) := Lib.hid rfl
  obtain ⟨R, hR⟩ : ∃ R, rStep (c, r0) p d = R := ⟨_, rfl⟩
  rw [hR] at HST ⊢
  clear KA hI hh hT hR
  have e0 := cell_blk HI.out.c1 0
  have f0 := blk_free HI.out.c1 0
  go_enter Tryz.func22, Tryz.ntmps22
  go_upto_region 2 with fail
  clear hw1 hbx
  have KS := Kp.set HI.out.c1 (by decide) (by decide) 0 (.int .i64 (wrap64 (c + 1)))
  have HX := Lib.hid (KS.blk bx _ 25 (.inl rfl) HX.out)
  have KK := Lib.hid (KK.out.trans KS)
  have HI := Lib.hid (HI.out.put1 HT.out (wrap64 (c + 1)))
  clear e0 f0 KS
  obtain ⟨w2, hw2⟩ : ∃ z, w1.setCell ⟨nb, 0, none⟩ (.int .i64 (wrap64 (c + 1))) = z := ⟨_, rfl⟩
  rw [hw2] at HX KK HI ⊢
  clear hw2
  obtain ⟨x, hx⟩ : ∃ x, wrap64 (c + 1) = x := ⟨_, rfl⟩
  rw [hx] at HI HST ⊢
  clear hx
  have HI : Hid (CellIB w0 nb rb (x, r0) w2) := HI
  have e0 := cell_blk HI.out.c1 0
  have e1 := cell_blk HX.out 0
  have e2 := cell_blk HX.out 1
  have e3 := cell_blk HX.out 2
  have e4 := cell_blk HX.out 3
  have e5 := cell_blk HI.out.c2 0
  have f5 := blk_free HI.out.c2 0
  by_cases a1 : x ≤ 2000
  · by_cases a2 : d ≤ 40
    · obtain rfl : R = ((x, fitB p), fitB p) := by rw [HST.out]; simp [a1, a2]
      go_wp2_with fail
      (with_reducible refine (HFT.out _ HI.out.tab).mono ?_)
      rintro e w3 ⟨rfl, q⟩
      have KK := Lib.hid (KK.out.trans (Kp.of_below q))
      have HI := Lib.hid (HI.out.keep q)
      clear q e0 e1 e2 e3 e4 e5 f5
      have e5 := cell_blk HI.out.c2 0
      have f5 := blk_free HI.out.c2 0
      obtain ⟨fb, hfb⟩ : ∃ z, fitB p = z := ⟨_, rfl⟩
      rw [hfb]
      go_wp2
      go_returns
      exact ⟨rfl, Lib.hid (HI.out.put2 HT.out fb), Lib.hid (KK.out.trans (Kp.set HI.out.c2 (by decide) (by decide) 0 _))⟩
    · obtain rfl : R = ((x, false), false) := by rw [HST.out]; simp [a2]
      go_wp2
      go_returns
      exact ⟨rfl, Lib.hid (HI.out.put2 HT.out false), Lib.hid (KK.out.trans (Kp.set HI.out.c2 (by decide) (by decide) 0 _))⟩
  · obtain rfl : R = ((x, false), false) := by rw [HST.out]; simp [a1]
    go_wp2
    go_returns
    exact ⟨rfl, Lib.hid (HI.out.put2 HT.out false), Lib.hid (KK.out.trans (Kp.set HI.out.c2 (by decide) (by decide) 0 _))⟩
theorem enters30 : ∀ (args : Array Value) (w : World), (callFunc 22 args).run Tryz.prog w = .ok (.enter 22 args) w := enters_of Tryz.func22 (by kernel_rfl) rfl
theorem tour_ne {w : World} {n : Nat} {v : Value} {F : Tour} (h : ExAt w n v F) (d : Int) : F d ≠ [] := by
  match n, h with
  | n + 1, h =>
    obtain ⟨p, an, nn, nc, aa, ac, Fs, _, _, _, rfl, _⟩ := h
    simp
set_option maxHeartbeats 2000000 in
theorem right_any (n : Nat) (v : Value) (F : Tour) (w : World) (hT : Tabn w) (hF : ExAt w n v F) (r : Bool) (hr : r = true ↔ RightL (F 1)) :
    Calls Tryz.prog 8 #[v] w fun e w' => e = .returned (.bool r) ∧ Below w.heap.size w w' := by
  obtain ⟨nb, hnb⟩ : ∃ z, w.heap.size + 1 = z := ⟨_, rfl⟩
  have HV := Lib.hid (fun s W h => visit_any rStep (CellIB w nb (nb + 1)) 22 #[.pointer (some ⟨nb, 0, none⟩), .pointer (some ⟨nb + 1, 0, none⟩)] w (fun s W h => h.bw) (fun s W W' h q => h.keep q) (fun _ => 0) ((F 1).length + 1) (fun _ _ _ => Nat.zero_le _) (right_step w hT nb (nb + 1) _) enters30 n v F hF s W (by omega) h)
  obtain ⟨p, an, nn, nc, aa, ac, rfl, _⟩ := hF.head
  have HRR : Hid (r = (run rStep (0, true) (wl (F 1))).1.2) := Lib.hid (by
    have a := r_run (wl (F 1)) 0 (by omega) (by omega)
    have b : ((run rStep (0, true) (wl (F 1))).1.2 = true ↔ r = true) := by
      rw [a, hr, wl_len]; unfold RightL
      constructor
      · intro h
        have h1 : (F 1).length ≤ 2000 := by have := h.1; omega
        rw [wl_same hF h1] at h
        exact ⟨h1, h.2⟩
      · intro h
        rw [wl_same hF h.1]
        exact ⟨by have := h.1; omega, h.2⟩
    cases r <;> cases q : (run rStep (0, true) (wl (F 1))).1.2 <;> simp_all)
  obtain ⟨R, hR⟩ : ∃ R, (run rStep (0, true) (wl (F 1))).1 = R := ⟨_, rfl⟩
  rw [hR] at HRR
  have HRN := Lib.hid hR
  have HT := Lib.hid hT
  obtain ⟨bx, hbx⟩ : ∃ z, w.heap.size = z := ⟨_, rfl⟩
  clear hF hr hR hT
  go_enter Tryz.func8, Tryz.ntmps8
  go_upto_region 2 with fail
  obtain ⟨w1, hw1⟩ : ∃ z, ((w.alloc (.cells #[.int .u8 p.op, .string p.nm, .slice an nn nc, .slice aa p.k ac] 25)).alloc (.cells #[.int .i64 0] 3)).alloc (.cells #[.bool true] 4) = z := ⟨_, rfl⟩
  have KA : Below w.heap.size w w1 := by rw [← hw1]; exact (((Below.refl _ w).alloc (Nat.le_refl _) _).alloc (by simp) _).alloc (by simp; omega) _
  have X1 : Hid (w1.heap[bx]? = some (.cells #[.int .u8 p.op, .string p.nm, .slice an nn nc, .slice aa p.k ac] 25 (0, 0))) := Lib.hid (by rw [← hw1, al_old _ _ (by simp; omega), al_old _ _ (by simp; omega), ← hbx, al_new])
  have HI : Hid (CellIB w nb (nb + 1) (0, true) w1) := Lib.hid ⟨KA, by omega, by omega, by omega, by rw [← hw1, al_old _ _ (by simp; omega), show nb = (w.alloc (.cells #[.int .u8 p.op, .string p.nm, .slice an nn nc, .slice aa p.k ac] 25)).heap.size by simp; omega, al_new], by rw [← hw1, show nb + 1 = ((w.alloc (.cells #[.int .u8 p.op, .string p.nm, .slice an nn nc, .slice aa p.k ac] 25)).alloc (.cells #[.int .i64 0] 3)).heap.size by simp; omega, al_new], HT.out.keep KA⟩
  have hn2 : nb = bx + 1 := by omega
  have HC := Lib.hid (HV.out (0, true) w1 HI.out)
  rw [HRN.out] at HC
  subst hn2
  clear HV HRN hnb KA HI
  rw [hw1]
  have e0 := cell_blk X1.out 0
  have e1 := cell_blk X1.out 1
  have e2 := cell_blk X1.out 2
  have e3 := cell_blk X1.out 3
  clear hw1 hbx
  go_wp2_with fail
  (with_reducible refine HC.out.mono ?_)
  rintro e w3 ⟨rfl, HI, K3⟩
  have n0 := cell_blk HI.out.c2 0
  have HF := Lib.hid HI.out.bw
  clear HC K3 e0 e1 e2 e3 HI
  obtain ⟨x, y⟩ := R
  obtain rfl : r = y := HRR.out
  go_wp2
  go_returns
  exact ⟨rfl, HF.out⟩
def dStep (c : Int) (p : Pt) (d : Int) : Int × Bool := (max c d, true)
end Go.Proofs.YtimjendkpjojoaaGreatDoor
