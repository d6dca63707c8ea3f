/- A drawn region within a round; contracts: what turn of canon calls. -/
import Derived.RangeFuncNested
import Derived.RangeFuncBound
import Derived.RangeFuncCalls
import Derived.RangeFuncLeaves
import Derived.Shelf.Abstract
import Derived.Shelf.RegionOpen
import Derived.OwnWalkIn
import Derived.TacticsInMore
import Derived.LoopNIn
import Derived.LoopIn
import Derived.Test.YtkhnoikdfelheaaM2
namespace Go.Proofs.Ytkhnoikdfelheaa
set_option linter.unusedVariables false
set_option linter.unusedSimpArgs false
open Go.ChangeShapes Go.WideShapes Go.ChangeAt Go.RowKit
/-- An operation that defers nothing is carried out within a round as it is anywhere. -/
theorem opIn_round {n : Nat} {P : Program} {l : Nat} {o : Oper} (hnd : ∀ c, o.op ≠ .defer c) {a : Act} {w : World} {K : Act → World → Prop} {Q : Exit → Act → World → Prop} (h : o.wpIn Fence.wide n P a w K Q) : o.wpIn (Fence.wide.inRound l) n P a w K Q := by
  unfold Oper.wpIn at *
  refine ⟨h.1, ?_⟩
  have h2 := h.2
  show o.uponIn (Fence.wide.inRound l) n P a K Q ((o.semAt (some l) a.eval).run P w)
  rw [Oper.semAt_some l _ _ hnd]
  have e : o.semAt Fence.wide.round a.eval = execOp a.eval o := Oper.semAt_none ..
  rw [e] at h2
  generalize (execOp a.eval o).run P w = r at *
  cases r with
  | ok x w' => cases x <;> exact h2
  | halt x w' => cases x <;> exact h2
def undeferred (o : Oper) : Bool := match o.op with
  | .defer _ => false
  | _ => true
theorem undeferred_spec {o : Oper} (h : undeferred o = true) : ∀ c, o.op ≠ .defer c := by
  intro c e
  unfold undeferred at h
  rw [e] at h
  cases h
theorem anyIn_round {n : Nat} {P : Program} {l : Nat} {md : Region.Mode} {ops : Array Oper} {Q : Exit → Act → World → Prop} (hnd : ops.all undeferred = true) : ∀ (fuel : Nat) (listed : Array Bool) (a : Act) (w : World), wpAnyIn Fence.wide n P md ops Q fuel listed a w → wpAnyIn (Fence.wide.inRound l) n P md ops Q fuel listed a w := by
  intro fuel
  induction fuel with
  | zero => intro listed a w h; exact h
  | succ fuel ih =>
    intro listed a w h
    refine ⟨h.1, fun i hi => ?_⟩
    have h2 := wpOpIn_mono (fun a w => ih _ a w) (h.2 i hi)
    unfold wpOpIn at h2 ⊢
    cases e : ops[i]? with
    | none => rw [e] at h2; exact h2
    | some o =>
      rw [e] at h2
      have ho : undeferred o = true := by
        obtain ⟨hlt, rfl⟩ := Array.getElem?_eq_some_iff.1 e
        exact Array.all_eq_true.1 hnd i hlt
      dsimp only at h2 ⊢
      by_cases q : Region.wanted o (yielded ops a.tmps) = true
      · rw [if_pos q] at h2 ⊢; exact opIn_round (undeferred_spec ho) h2
      · rw [if_neg q] at h2 ⊢; exact h2
theorem drawn_round {n l id : Nat} {P : Program} {ops : Array Oper} {Q : Exit → Act → World → Prop} {a : Act} {w : World} (hm : P.follows .mixedOrders = true) (hnd : ops.all undeferred = true) (h : wpAnyIn Fence.wide n P .any ops Q ops.size (Array.replicate ops.size false) a w.drew) : (Code.region id ops true).wpIn (Fence.wide.inRound l) n P Q a w :=
  wpIn_region_any hm (anyIn_round hnd _ _ _ _ h)
theorem some_any (ao : Option Addr) (n c : Nat) (l : List Sp) (w : World) (hl : SpAt w ao n c l) (r : Bool) (hr : r = true ↔ l ≠ []) :
    Calls Try.prog 47 #[.slice ao n c] w fun e w' => e = .returned (.bool r) ∧ w' = w := by
  have h1 := hl.len
  have hmx : n ≤ 9223372036854775807 := Nat.le_trans hl.le hl.top
  have HR : Hid (r = true ↔ 0 < n) := Lib.hid (by rw [hr, ← h1]; exact List.length_pos_iff.symm)
  clear hr hl h1
  by_cases h : 0 < n
  · have HE : Hid (true = r) := Lib.hid (HR.out.2 h).symm
    have t1 : (0 : Int) < (n : Int) := by omega
    go_enter Try.func47, Try.ntmps47
    go_wp2
    go_returns
    exact ⟨ret_bool (by rw [← HE.out]; (first | done | rfl | (simp; done) | (simp; omega))), rfl⟩
  · have HE : Hid (false = r) := Lib.hid (by cases r; rfl; exact absurd (HR.out.1 rfl) h)
    have t1 : ¬ (0 : Int) < (n : Int) := by omega
    go_enter Try.func47, Try.ntmps47
    go_wp2
    go_returns
    exact ⟨ret_bool (by rw [← HE.out]; (first | done | rfl | (simp; done) | (simp; omega))), rfl⟩
set_option maxHeartbeats 1000000 in
theorem indexSome_any (co : Option Addr) (cn cc : Nat) (cs : List (List Sp)) (w : World) (hc : CoAt w co cn cc cs) :
    Calls Try.prog 66 #[.slice co cn cc, .func (.func 47) #[] #[]] w fun e w' => ∃ k : Int, e = .returned (.int .i64 k) ∧ Hid ((k < 0 ∧ ∀ l ∈ cs, l = []) ∨ (0 ≤ k ∧ ∃ l ∈ cs, l ≠ [])) ∧ Below w.heap.size w w' := by
  have HC := Lib.hid hc
  have LC := Lib.hid hc.len
  have hmx : cn ≤ 9223372036854775807 := Nat.le_trans hc.le hc.top
  clear hc
  go_enter Try.func66, Try.ntmps66
  go_wp2
  go_loopw [8] (fun ii wr => ∃ i : Nat, i ≤ cn ∧ ii = .int .i64 i ∧ Hid (∀ l ∈ cs.take i, l = []) ∧ Hid (Below w.heap.size w wr)) (fun ii _ => cn - (intOf ii).toNat)
  case atStart => exact ⟨0, Nat.zero_le _, rfl, Lib.hid (fun l h => by cases h), Lib.hid (Below.refl _ _)⟩
  case round =>
    obtain ⟨i, hi, rfl, HG, HW⟩ := hrel
    by_cases ilt : i < cn
    · have HCW := HC.out.keep HW.out
      obtain ⟨g, p, rfl, hc⟩ := HCW.here (by omega)
      have hil : i < cs.length := by rw [LC.out]; exact ilt
      obtain ⟨o, m, d, d1, d2⟩ := hc i hil
      obtain ⟨r, hr⟩ : ∃ r : Bool, r = true ↔ cs[i] ≠ [] := by classical exact ⟨decide _, decide_eq_true_iff⟩
      have HD := Lib.hid (fun W (h : Below wr.heap.size wr W) => some_any o m d cs[i] W (d2.keep h) r hr)
      have i0 : (0 : Int) ≤ (i : Int) := by omega
      have i1 : (i : Int) < (cn : Int) := by omega
      have HM := Lib.hid (List.getElem_mem hil)
      have HR := Lib.hid hr
      have HTS := Lib.hid (List.take_succ_eq_append_getElem hil)
      clear hc d2 hr HCW
      cases r
      · have HG2 : Hid (∀ l ∈ cs.take (i + 1), l = []) := Lib.hid (fun l hl => by
          rw [HTS.out] at hl
          rcases List.mem_append.1 hl with h | h
          · exact HG.out l h
          · rw [List.mem_singleton.1 h]
            exact Classical.byContradiction (fun z => by have := HR.out.2 z; cases this))
        clear HR HM HTS
        clear hil
        go_wp2_with fail
        (with_reducible refine (HD.out _ (Below.refl _ _)).mono ?_)
        rintro e w2 ⟨rfl, rfl⟩
        go_wp2
        go_roundw
        case rel => exact ⟨i + 1, by omega, by go_num, HG2, HW⟩
        case measure => simp [intOf]; omega
      · have HNO : Hid (∃ l ∈ cs, l ≠ []) := Lib.hid ⟨_, HM.out, HR.out.1 rfl⟩
        clear HR HM HTS
        clear hil
        go_wp2_with fail
        (with_reducible refine (HD.out _ (Below.refl _ _)).mono ?_)
        rintro e w2 ⟨rfl, rfl⟩
        go_wp2
        go_returns
        exact ⟨_, rfl, Lib.hid (.inr ⟨by omega, HNO.out⟩), HW.out⟩
    · obtain rfl : cn = i := by omega
      have HA : Hid (∀ l ∈ cs, l = []) := Lib.hid (by
        have h := HG.out
        rw [List.take_of_length_le (by rw [LC.out]; exact Nat.le_refl _)] at h
        exact h)
      go_wp2
      go_returns
      exact ⟨_, rfl, Lib.hid (.inl ⟨by omega, HA.out⟩), HW.out⟩
theorem containsSome_any (co : Option Addr) (cn cc : Nat) (cs : List (List Sp)) (w : World) (hc : CoAt w co cn cc cs) (r : Bool) (hr : r = true ↔ ∃ l ∈ cs, l ≠ []) :
    Calls Try.prog 46 #[.slice co cn cc, .func (.func 47) #[] #[]] w fun e w' => e = .returned (.bool r) ∧ Below w.heap.size w w' := by
  have K := Lib.hid (indexSome_any co cn cc cs w hc)
  have HR := Lib.hid hr
  clear hc hr
  go_enter Try.func46, Try.ntmps46
  go_wp2_with fail
  (with_reducible refine K.out.mono ?_)
  rintro e w1 ⟨k, rfl, HK, q⟩
  rcases HK.out with ⟨h1, h2⟩ | ⟨h1, h2⟩
  · have HE : Hid (r = false) := Lib.hid (by
      cases r
      · rfl
      · obtain ⟨l, hl, hn⟩ := HR.out.1 rfl
        exact absurd (h2 l hl) hn)
    have t1 : ¬ 0 ≤ k := by omega
    clear h2 HK
    go_wp2
    go_returns
    exact ⟨ret_bool (by rw [HE.out]; (first | done | (simp; done) | (simp; omega))), q⟩
  · have HE : Hid (r = true) := Lib.hid (HR.out.2 h2)
    clear h2 HK
    go_wp2
    go_returns
    exact ⟨ret_bool (by rw [HE.out]; (first | done | (simp; done) | (simp; omega))), q⟩
theorem divisors_any (n : Int) (w : World) : Calls Try.prog 48 #[.int .i64 n] w fun e w' => e = .returned (.func (.func 67) #[] #[.pointer (some ⟨w.heap.size, 0, none⟩)]) ∧ w' = w.alloc (.cells #[.int .i64 n] 3) := by
  go_enter Try.func48, Try.ntmps48
  go_wp2
  go_returns
  exact ⟨rfl, rfl⟩
end Go.Proofs.Ytkhnoikdfelheaa
