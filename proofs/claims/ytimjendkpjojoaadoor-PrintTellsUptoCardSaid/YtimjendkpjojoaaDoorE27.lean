/- Same. -/
import Derived.Test.YtimjendkpjojoaaDoorE25
import Derived.Test.YtimjendkpjojoaaDoorE26
namespace Go.Proofs.YtimjendkpjojoaaDoor
set_option linter.unusedVariables false
set_option linter.unusedSimpArgs false
open Go.ChangeShapes Go.WideShapes Go.ChangeAt Go.RowKit
set_option maxRecDepth 8000 in
set_option maxHeartbeats 4000000 in
theorem same_any : ∀ (n : Nat) (v : Value) (F : Tour) (m : Nat) (v' : Value) (G : Tour) (w : World), ExAt w n v F → ExAt w m v' G → ∀ (r : Bool), (r = true ↔ F = G) → Calls Tryd.prog 46 #[v, v'] w fun e w' => e = .returned (.bool r) ∧ Below w.heap.size w w'
  | 0, _, _, _, _, _, _, h, _, _, _ => h.elim
  | _ + 1, _, _, 0, _, _, _, _, h, _, _ => h.elim
  | n + 1, v, F, m + 1, v', G, w, h, h', r, hr0 => by
    have IH := (fun v F v' G w h h' r hr => same_any n v F m v' G w h h' r hr)
    obtain ⟨p, an, nn, nc, aa, ac, Fs, rfl, hh, hk, rfl, hc⟩ := h
    obtain ⟨q, am, mm, mc, ab, ad, Gs, rfl, hg, hj, rfl, hd⟩ := h'
    unfold pv
    have HR := Lib.hid (hr0.trans (same_iff hk hj (exs_of hk hc) (exs_of hj hd)))
    obtain ⟨r1, hr1⟩ : ∃ r1 : Bool, r1 = true ↔ p.nums = q.nums := by classical exact ⟨decide _, decide_eq_true_iff⟩
    obtain ⟨r2, hr2⟩ : ∃ r2 : Bool, r2 = true ↔ Fs = Gs := by classical exact ⟨decide _, decide_eq_true_iff⟩
    have HR1 := Lib.hid hr1
    have HR2 := Lib.hid hr2
    have HS1 := Lib.hid (fun W (hW : Below w.heap.size w W) => sleq_any W hh.nums hg.nums hW r1 hr1)
    have HS2 := Lib.hid (fun W (hW : Below w.heap.size w W) => eqf_of n m aa ab p.k q.k ac ad Fs Gs w W hW hk hj hh.le hh.top hg.le hg.top hc hd IH r2 hr2)
    have HL : Hid (Fs = Gs → p.k = q.k) := Lib.hid (fun e => by rw [← hk, ← hj, e])
    obtain ⟨b, hb⟩ : ∃ z, w.heap.size = z := ⟨_, rfl⟩
    obtain ⟨w1, hw1⟩ : ∃ z, (w.alloc (.cells #[.int .u8 p.op, .string p.nm, .slice an nn nc, .slice aa p.k ac] 25)).alloc (.cells #[.int .u8 q.op, .string q.nm, .slice am mm mc, .slice ab q.k ad] 25) = z := ⟨_, rfl⟩
    have HX : Hid (Bx2 w w1 b #[.int .u8 p.op, .string p.nm, .slice an nn nc, .slice aa p.k ac] #[.int .u8 q.op, .string q.nm, .slice am mm mc, .slice ab q.k ad]) := Lib.hid ⟨by rw [← hw1]; exact ((Below.refl _ w).alloc (Nat.le_refl _) _).alloc (by simp) _, by rw [← hw1, al_old _ _ (by simp; omega), ← hb, al_new], by rw [← hw1, show b + 1 = (w.alloc (.cells #[.int .u8 p.op, .string p.nm, .slice an nn nc, .slice aa p.k ac] 25)).heap.size by simp; omega, al_new]⟩
    have hb1 : (w.alloc (.cells #[.int .u8 p.op, .string p.nm, .slice an nn nc, .slice aa p.k ac] 25)).heap.size = b + 1 := by simp; omega
    clear hc hk hd hj hr0 hh hg hr1 hr2 IH
    have e0 := cell_blk HX.out.b1 0
    have e1 := cell_blk HX.out.b1 1
    have e2 := cell_blk HX.out.b1 2
    have e3 := cell_blk HX.out.b1 3
    have f0 := cell_blk HX.out.b2 0
    have f1 := cell_blk HX.out.b2 1
    have f2 := cell_blk HX.out.b2 2
    have f3 := cell_blk HX.out.b2 3
    go_enter Tryd.func46, Tryd.ntmps46
    go_upto_region 1 with fail
    clear hw1 hb hb1
    by_cases o1 : p.op = q.op
    · have t1 : (p.op == q.op) = true := by simp [o1]
      by_cases n1e : p.nm = q.nm
      · have t2 : p.nm.toList = q.nm.toList := (nm_inj _ _).2 n1e
        go_wp2_with fail
        (with_reducible refine (HS1.out _ HX.out.bw).mono ?_)
        rintro e w2 ⟨rfl, q1⟩
        have HX := Lib.hid (HX.out.keep q1)
        clear q1 HS1 e0 e1 e2 e3 f0 f1 f2 f3
        cases r1
        · obtain rfl : r = false := by
            cases r
            · rfl
            · have a := (HR.out.1 rfl).2.2.1
              have b := HR1.out
              simp [a] at b
          go_wp2
          go_returns
          exact ⟨rfl, HX.out.bw⟩
        · have HNE : Hid (p.nums = q.nums) := Lib.hid (by have a := HR1.out; simpa using a)
          have e0 := cell_blk HX.out.b1 0
          have e1 := cell_blk HX.out.b1 1
          have e2 := cell_blk HX.out.b1 2
          have e3 := cell_blk HX.out.b1 3
          have f0 := cell_blk HX.out.b2 0
          have f1 := cell_blk HX.out.b2 1
          have f2 := cell_blk HX.out.b2 2
          have f3 := cell_blk HX.out.b2 3
          go_wp2_with fail
          (with_reducible refine (HS2.out _ HX.out.bw).mono ?_)
          rintro e w3 ⟨rfl, q1⟩
          have HX := Lib.hid (HX.out.keep q1)
          clear q1 HS2 e0 e1 e2 e3 f0 f1 f2 f3
          obtain rfl : r = r2 := by
            have a := HR.out
            have b := HR2.out
            cases r
            · cases r2
              · rfl
              · have c := b.1 rfl
                have d := a.2 ⟨o1, n1e, HNE.out, HL.out c, c⟩
                cases d
            · exact (b.2 (a.1 rfl).2.2.2.2).symm
          clear HR HR2
          go_wp2
          go_returns
          exact ⟨rfl, HX.out.bw⟩
      · have t2 : ¬ p.nm.toList = q.nm.toList := fun e => n1e ((nm_inj _ _).1 e)
        have t2b : (p.nm.toList == q.nm.toList) = false := by simpa using t2
        obtain rfl : r = false := by
          cases r
          · rfl
          · exact absurd (HR.out.1 rfl).2.1 (by exact n1e)
        go_wp2
        go_returns
        exact ⟨rfl, HX.out.bw⟩
    · have t1 : (p.op == q.op) = false := by simp [o1]
      obtain rfl : r = false := by
        cases r
        · rfl
        · exact absurd (HR.out.1 rfl).1 (by exact o1)
      go_wp2
      go_returns
      exact ⟨rfl, HX.out.bw⟩
end Go.Proofs.YtimjendkpjojoaaDoor
