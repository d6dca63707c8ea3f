/- M23, M24, M25, M26, M27, M28 in one. -/
import Derived.Test.YtllhcpkpbipjlaaDoorKas
namespace Go.Proofs.YtllhcpkpbipjlaaDoor
set_option linter.unusedVariables false
set_option linter.unusedSimpArgs false
open Go.ChangeShapes Go.WideShapes Go.ChangeAt Go.RowKit
/-- The reference's reader in memory. -/
structure Rr (w0 W : World) (rb : Nat) (ao : Option Addr) (n c : Nat) (l : List Lx.Tk) (s : Lx.St) : Prop where
  bw : Below w0.heap.size w0 W
  lo : w0.heap.size ≤ rb
  box : W.heap[rb]? = some (.cells #[.slice ao n c, .int .i64 s.at_, .int .i64 s.parts, .int .i64 s.wrong] 71 (0, 0))
  tk : TkAt w0 ao n c l
  top : s.at_ ≤ n
theorem Rr.lt {w0 W : World} {rb : Nat} {ao : Option Addr} {n c : Nat} {l : List Lx.Tk} {s : Lx.St} (h : Rr w0 W rb ao n c l s) : rb < W.heap.size := (Array.getElem?_eq_some_iff.1 h.box).1
theorem Rr.grown {w0 W W' : World} {rb : Nat} {ao : Option Addr} {n c : Nat} {l : List Lx.Tk} {s : Lx.St} {row : Option Nat} (h : Rr w0 W rb ao n c l s) (k : W.grownBy W' row) (hr : ∀ q, row = some q → w0.heap.size ≤ q ∧ q ≠ rb) : Rr w0 W' rb ao n c l s :=
  ⟨below_grown h.bw k (fun q e => (hr q e).1) h.bw.size, h.lo, (k.block rb h.lt (fun e => (hr rb e.symm).2 rfl)).trans h.box, h.tk, h.top⟩
theorem Rr.keep {w0 W W' : World} {rb : Nat} {ao : Option Addr} {n c : Nat} {l : List Lx.Tk} {s : Lx.St} (h : Rr w0 W rb ao n c l s) (k : Below W.heap.size W W') : Rr w0 W' rb ao n c l s :=
  h.grown (grown_of_below k none) (fun q e => by cases e)
theorem Rr.wrong {w0 W : World} {rb : Nat} {ao : Option Addr} {n c : Nat} {l : List Lx.Tk} {s : Lx.St} (h : Rr w0 W rb ao n c l s) (e : Int) : Rr w0 (W.setCell ⟨rb, 3, none⟩ (.int .i64 e)) rb ao n c l ⟨s.at_, s.parts, e⟩ :=
  ⟨below_grown h.bw (grow_cell W _ _) (fun q e => by cases e; exact h.lo) h.bw.size, h.lo, by rw [set_block h.box]; rfl, h.tk, h.top⟩
theorem Rr.part {w0 W : World} {rb : Nat} {ao : Option Addr} {n c : Nat} {l : List Lx.Tk} {s : Lx.St} (h : Rr w0 W rb ao n c l s) (e : Nat) : Rr w0 (W.setCell ⟨rb, 2, none⟩ (.int .i64 e)) rb ao n c l ⟨s.at_, e, s.wrong⟩ :=
  ⟨below_grown h.bw (grow_cell W _ _) (fun q e => by cases e; exact h.lo) h.bw.size, h.lo, by rw [set_block h.box]; rfl, h.tk, h.top⟩
theorem Rr.next {w0 W : World} {rb : Nat} {ao : Option Addr} {n c : Nat} {l : List Lx.Tk} {s : Lx.St} (h : Rr w0 W rb ao n c l s) (e : Nat) (he : e ≤ n) : Rr w0 (W.setCell ⟨rb, 1, none⟩ (.int .i64 e)) rb ao n c l ⟨e, s.parts, s.wrong⟩ :=
  ⟨below_grown h.bw (grow_cell W _ _) (fun q e => by cases e; exact h.lo) h.bw.size, h.lo, by rw [set_block h.box]; rfl, h.tk, he⟩
theorem Rr.cells {w0 W : World} {rb : Nat} {ao : Option Addr} {n c : Nat} {l : List Lx.Tk} {s : Lx.St} (h : Rr w0 W rb ao n c l s) : W.cell? ⟨rb, 0, none⟩ = some (.slice ao n c) ∧ W.cell? ⟨rb, 1, none⟩ = some (.int .i64 s.at_) ∧ W.cell? ⟨rb, 2, none⟩ = some (.int .i64 s.parts) ∧ W.cell? ⟨rb, 3, none⟩ = some (.int .i64 s.wrong) :=
  ⟨cell_blk h.box 0, cell_blk h.box 1, cell_blk h.box 2, cell_blk h.box 3⟩
theorem Rr.tok {w0 W : World} {rb : Nat} {ao : Option Addr} {n c : Nat} {l : List Lx.Tk} {s : Lx.St} (h : Rr w0 W rb ao n c l s) (i : Nat) (hi : i < n) : ∃ b p, ao = some ⟨b, p, none⟩ ∧ W.cell? ⟨b, p + i * 3, none⟩ = some (.int .u8 (Lx.tkAt l i).1) ∧ W.cell? ⟨b, p + i * 3 + 1, none⟩ = some (.string ⟨(Lx.tkAt l i).2.1.toArray⟩) ∧ W.cell? ⟨b, p + i * 3 + 2, none⟩ = some (.int .i64 (Lx.tkAt l i).2.2) := by
  obtain ⟨b, p, e, hc⟩ := h.tk.here (by omega)
  have hl : i < l.length := by rw [h.tk.len]; exact hi
  have e1 : Lx.tkAt l i = l[i] := by unfold Lx.tkAt; rw [List.getD_eq_getElem?_getD, List.getElem?_eq_getElem hl]; rfl
  rw [e1]
  exact ⟨b, p, e, cell_keep (hc i hl).1 h.bw, cell_keep (hc i hl).2.1 h.bw, cell_keep (hc i hl).2.2 h.bw⟩
theorem Rr.end_ {w0 W : World} {rb : Nat} {ao : Option Addr} {n c : Nat} {l : List Lx.Tk} {s : Lx.St} (h : Rr w0 W rb ao n c l s) (e : n ≤ s.at_) : Lx.tkAt l s.at_ = (0, [], 0) := by
  unfold Lx.tkAt; rw [List.getD_eq_getElem?_getD, List.getElem?_eq_none (by rw [h.tk.len]; exact e)]; rfl
theorem Rr.nlt {w0 W : World} {rb : Nat} {ao : Option Addr} {n c : Nat} {l : List Lx.Tk} {s : Lx.St} (h : Rr w0 W rb ao n c l s) : n ≤ 9223372036854775807 := by have := h.tk.le; have := h.tk.top; omega
theorem Rr.drew {w0 W : World} {rb : Nat} {ao : Option Addr} {n c : Nat} {l : List Lx.Tk} {s : Lx.St} (h : Rr w0 W rb ao n c l s) (k : Nat) : Rr w0 (W.drewN k) rb ao n c l s := h.keep (below_drewN (Below.refl _ W) k)

/-- The first error. -/
def failR (s : Lx.St) (e : Int) : Lx.St := if s.wrong = 0 then ⟨s.at_, s.parts, e⟩ else s
theorem rfail_any (w0 W : World) (rb : Nat) (ao : Option Addr) (n c : Nat) (l : List Lx.Tk) (s : Lx.St) (e : Int) (h : Rr w0 W rb ao n c l s) :
    Calls Tryd.prog 50 #[.pointer (some ⟨rb, 0, none⟩), .int .i64 e] W fun en w' => en = .returned (.tuple #[]) ∧ Hid (Rr w0 w' rb ao n c l (failR s e)) ∧ Hid (W.grownBy w' (some rb)) := by
  obtain ⟨c0, c1, c2, c3⟩ := h.cells
  have f3 := blk_free h.box 3
  have HG : Hid (W.grownBy (W.setCell ⟨rb, 3, none⟩ (.int .i64 e)) (some rb)) := Lib.hid (grow_cell W ⟨rb, 3, none⟩ _)
  by_cases z : s.wrong = 0
  · have HW := Lib.hid (h.wrong e)
    rw [show failR s e = ⟨s.at_, s.parts, e⟩ from if_pos z]
    rw [z] at c3
    clear h z
    go_enter Tryd.func50, Tryd.ntmps50
    go_wp2_with fail
    go_returns
    exact ⟨rfl, HW, HG⟩
  · have HW := Lib.hid h
    rw [show failR s e = s from if_neg z]
    have z2 : (s.wrong == 0) = false := by rw [beq_eq_false_iff_ne]; exact z
    clear h z
    go_enter Tryd.func50, Tryd.ntmps50
    go_wp2_with fail
    go_returns
    exact ⟨rfl, HW, Lib.hid (grown_of_below (Below.refl _ W) _)⟩
set_option maxHeartbeats 4000000 in
theorem ris_any (w0 W : World) (rb : Nat) (ao : Option Addr) (n c : Nat) (l : List Lx.Tk) (s : Lx.St) (m : ByteArray) (h : Rr w0 W rb ao n c l s) :
    Calls Tryd.prog 51 #[.pointer (some ⟨rb, 0, none⟩), .string m] W fun en w' => en = .returned (.bool (decide (s.wrong = 0) && Lx.isMk l s.at_ m.data.toList)) ∧ ∃ k, w' = W.drewN k := by
  obtain ⟨c0, c1, c2, c3⟩ := h.cells
  have nl := h.nlt
  have n1 : (n : Int) ≤ 9223372036854775807 := by omega
  have n0 : (0 : Int) ≤ (n : Int) := by omega
  have a0 : (0 : Int) ≤ (s.at_ : Int) := by omega
  have a1 : (s.at_ : Int) ≤ 9223372036854775807 := by have := h.top; omega
  by_cases z : s.wrong = 0
  · rw [decide_eq_true z, Bool.true_and]
    rw [z] at c3
    by_cases lt : s.at_ < n
    · have lt' : (s.at_ : Int) < (n : Int) := by omega
      obtain ⟨b, p, rfl, t0, t1, t2⟩ := h.tok s.at_ lt
      unfold Lx.isMk
      obtain ⟨⟨k1, k2, k3⟩, hk⟩ : ∃ t, Lx.tkAt l s.at_ = t := ⟨_, rfl⟩
      rw [hk] at t0 t1 t2 ⊢
      dsimp only at t0 t1 t2 ⊢
      obtain ⟨sb, hsb⟩ : ∃ sb : ByteArray, ⟨k2.toArray⟩ = sb := ⟨_, rfl⟩
      rw [hsb] at t1
      clear h z hk t2
      by_cases q1 : k1 = 4
      · by_cases q2 : sb = m
        · have hm : m.data.toList = k2 := by rw [← q2, ← hsb]
          rw [decide_eq_true ⟨q1, hm.symm⟩]
          clear hm hsb
          subst q1
          subst q2
          go_enter Tryd.func51, Tryd.ntmps51
          go_upto_region 1 with fail
          go_quiet (fail)
          go_wp2_with fail
          go_returns
          exact ⟨rfl, _, rfl⟩
        · have e2 : (sb.toList == m.toList) = false := by rw [beq_eq_false_iff_ne]; exact fun e => q2 ((nm_inj _ _).1 e)
          rw [decide_eq_false (fun e => q2 (by rw [← hsb, e.2]))]
          clear hsb q2
          subst q1
          go_enter Tryd.func51, Tryd.ntmps51
          go_upto_region 1 with fail
          go_quiet (fail)
          go_wp2_with fail
          go_returns
          exact ⟨rfl, _, rfl⟩
      · have e1 : (k1 == 4) = false := by rw [beq_eq_false_iff_ne]; exact q1
        rw [decide_eq_false (fun e => q1 e.1)]
        clear hsb q1
        go_enter Tryd.func51, Tryd.ntmps51
        go_upto_region 1 with fail
        go_quiet (fail)
        go_wp2_with fail
        go_returns
        exact ⟨rfl, _, rfl⟩
    · have lt' : ¬ (s.at_ : Int) < (n : Int) := by omega
      have lt2 : decide ((s.at_ : Int) < (n : Int)) = false := by simpa using lt'
      have he : Lx.isMk l s.at_ m.data.toList = false := by unfold Lx.isMk; rw [h.end_ (by omega)]; simp
      rw [he]
      clear h z he lt
      go_enter Tryd.func51, Tryd.ntmps51
      go_upto_region 1 with fail
      go_quiet (fail)
      go_wp2_with fail
      go_returns
      exact ⟨rfl, _, rfl⟩
  · rw [decide_eq_false z, Bool.false_and]
    have z2 : (s.wrong == 0) = false := by rw [beq_eq_false_iff_ne]; exact z
    clear h z
    go_enter Tryd.func51, Tryd.ntmps51
    go_upto_region 1 with fail
    go_quiet (fail)
    go_wp2_with fail
    go_returns
    exact ⟨rfl, _, rfl⟩

theorem failR_ok {s : Lx.St} (h : s.wrong = 0) (e : Int) : failR s e = ⟨s.at_, s.parts, e⟩ := if_pos h
theorem Rr.nx {w0 W : World} {rb : Nat} {ao : Option Addr} {n c : Nat} {l : List Lx.Tk} {s : Lx.St} (h : Rr w0 W rb ao n c l s) (lt : s.at_ < n) (k : Nat) : Rr w0 ((W.drewN k).setCell ⟨rb, 1, none⟩ (.int .i64 ((s.at_ : Int) + 1))) rb ao n c l ⟨s.at_ + 1, s.parts, s.wrong⟩ := (h.drew k).next (s.at_ + 1) lt
theorem take_yes' {l : List Lx.Tk} {s : Lx.St} (z : s.wrong = 0) : Lx.take l s true = (Lx.tkAt l s.at_, ⟨s.at_ + 1, s.parts, s.wrong⟩) := by unfold Lx.take; rw [if_pos z, if_pos rfl]
theorem take_no' {l : List Lx.Tk} {s : Lx.St} (z : s.wrong = 0) : Lx.take l s false = ((0, [], 0), ⟨s.at_, s.parts, 110⟩) := by unfold Lx.take; rw [if_pos z, if_neg (by decide)]
theorem take_bad' {l : List Lx.Tk} {s : Lx.St} (z : ¬ s.wrong = 0) (b : Bool) : Lx.take l s b = ((0, [], 0), s) := by unfold Lx.take; rw [if_neg z]
set_option maxHeartbeats 4000000 in
theorem rmrk_any (w0 W : World) (rb : Nat) (ao : Option Addr) (n c : Nat) (l : List Lx.Tk) (s : Lx.St) (m : ByteArray) (h : Rr w0 W rb ao n c l s) :
    Calls Tryd.prog 41 #[.pointer (some ⟨rb, 0, none⟩), .string m] W fun en w' => en = .returned (.tuple #[]) ∧ Hid (Rr w0 w' rb ao n c l (Lx.mark l s m.data.toList)) ∧ Hid (W.grownBy w' (some rb)) := by
  obtain ⟨c0, c1, c2, c3⟩ := h.cells
  have nl := h.nlt
  have n1 : (n : Int) ≤ 9223372036854775807 := by omega
  have n0 : (0 : Int) ≤ (n : Int) := by omega
  have a0 : (0 : Int) ≤ (s.at_ : Int) := by omega
  have a1 : (s.at_ : Int) ≤ 9223372036854775807 := by have := h.top; omega
  have f1 := blk_free h.box 1
  have HF := Lib.hid (fun k => rfail_any w0 (W.drewN k) rb ao n c l s 110 (h.drew k))
  have HG := Lib.hid (fun k (w' : World) (g : (W.drewN k).grownBy w' (some rb)) => grown_trans (grown_of_below (below_drewN (Below.refl _ W) k) (some rb)) g)
  have HH := Lib.hid h
  unfold Lx.mark
  by_cases z : s.wrong = 0
  · have e3 : (W.cell? ⟨rb, 3, none⟩) = some (.int .i64 0) := by rw [c3, z]
    clear c3
    by_cases lt : s.at_ < n
    · have lt' : (s.at_ : Int) < (n : Int) := by omega
      have HN := Lib.hid (fun k => h.nx lt k)
      obtain ⟨b, p, rfl, t0, t1, t2⟩ := h.tok s.at_ lt
      obtain ⟨⟨k1, k2, k3⟩, hk⟩ : ∃ t, Lx.tkAt l s.at_ = t := ⟨_, rfl⟩
      rw [hk] at t0 t1 t2
      dsimp only at t0 t1 t2
      obtain ⟨sb, hsb⟩ : ∃ sb : ByteArray, ⟨k2.toArray⟩ = sb := ⟨_, rfl⟩
      rw [hsb] at t1
      by_cases q1 : k1 = 4
      · by_cases q2 : sb = m
        · have hm : Lx.isMk l s.at_ m.data.toList = true := by unfold Lx.isMk; rw [hk]; exact decide_eq_true ⟨q1, by rw [← q2, ← hsb]⟩
          rw [hm, take_yes' z]
          clear hm hsb hk h z t2 HF
          subst q1
          subst q2
          go_enter Tryd.func41, Tryd.ntmps41
          go_upto_region 1 with fail
          go_quiet (fail)
          go_wp2_with fail
          go_returns
          exact ⟨rfl, Lib.hid (HN.out _), Lib.hid (HG.out _ _ (grow_cell _ ⟨rb, 1, none⟩ _))⟩
        · have e2 : (sb.toList == m.toList) = false := by rw [beq_eq_false_iff_ne]; exact fun e => q2 ((nm_inj _ _).1 e)
          have hm : Lx.isMk l s.at_ m.data.toList = false := by unfold Lx.isMk; rw [hk]; exact decide_eq_false (fun e => q2 (by rw [← hsb, show k2 = m.data.toList from e.2]))
          rw [failR_ok z] at HF
          rw [hm, take_no' z]
          clear hm hsb hk h z t2 q2 HN
          subst q1
          go_enter Tryd.func41, Tryd.ntmps41
          go_upto_region 1 with fail
          go_quiet (fail)
          go_wp2_with fail
          (with_reducible refine (HF.out _).mono ?_)
          rintro e w2 ⟨rfl, HR2, HG2⟩
          go_wp2_with fail
          go_returns
          exact ⟨rfl, HR2, Lib.hid (HG.out _ _ HG2.out)⟩
      · have e1 : (k1 == 4) = false := by rw [beq_eq_false_iff_ne]; exact q1
        have hm : Lx.isMk l s.at_ m.data.toList = false := by unfold Lx.isMk; rw [hk]; exact decide_eq_false (fun e => q1 e.1)
        rw [failR_ok z] at HF
        rw [hm, take_no' z]
        clear hm hsb hk h z t2 q1 HN
        go_enter Tryd.func41, Tryd.ntmps41
        go_upto_region 1 with fail
        go_quiet (fail)
        go_wp2_with fail
        (with_reducible refine (HF.out _).mono ?_)
        rintro e w2 ⟨rfl, HR2, HG2⟩
        go_wp2_with fail
        go_returns
        exact ⟨rfl, HR2, Lib.hid (HG.out _ _ HG2.out)⟩
    · have lt' : ¬ (s.at_ : Int) < (n : Int) := by omega
      have lt2 : decide ((s.at_ : Int) < (n : Int)) = false := by simpa using lt'
      have hm : Lx.isMk l s.at_ m.data.toList = false := by unfold Lx.isMk; rw [h.end_ (by omega)]; simp
      rw [failR_ok z] at HF
      rw [hm, take_no' z]
      clear h z hm lt
      go_enter Tryd.func41, Tryd.ntmps41
      go_upto_region 1 with fail
      go_quiet (fail)
      go_wp2_with fail
      (with_reducible refine (HF.out _).mono ?_)
      rintro e w2 ⟨rfl, HR2, HG2⟩
      go_wp2_with fail
      go_returns
      exact ⟨rfl, HR2, Lib.hid (HG.out _ _ HG2.out)⟩
  · have z2 : (s.wrong != 0) = true := by rw [bne_iff_ne]; exact z
    rw [take_bad' z]
    clear h z HF
    go_enter Tryd.func41, Tryd.ntmps41
    go_wp2_with fail
    go_returns
    exact ⟨rfl, HH, Lib.hid (grown_of_below (Below.refl _ W) _)⟩
set_option maxHeartbeats 4000000 in
theorem rdname_any (w0 W : World) (rb : Nat) (ao : Option Addr) (n c : Nat) (l : List Lx.Tk) (s : Lx.St) (h : Rr w0 W rb ao n c l s) :
    Calls Tryd.prog 38 #[.pointer (some ⟨rb, 0, none⟩)] W fun en w' => en = .returned (.string ⟨(Lx.name l s).1.toArray⟩) ∧ Hid (Rr w0 w' rb ao n c l (Lx.name l s).2) ∧ Hid (W.grownBy w' (some rb)) := by
  obtain ⟨c0, c1, c2, c3⟩ := h.cells
  have nl := h.nlt
  have n1 : (n : Int) ≤ 9223372036854775807 := by omega
  have n0 : (0 : Int) ≤ (n : Int) := by omega
  have a0 : (0 : Int) ≤ (s.at_ : Int) := by omega
  have a1 : (s.at_ : Int) ≤ 9223372036854775807 := by have := h.top; omega
  have f1 := blk_free h.box 1
  have HF := Lib.hid (fun k => rfail_any w0 (W.drewN k) rb ao n c l s 110 (h.drew k))
  have HG := Lib.hid (fun k (w' : World) (g : (W.drewN k).grownBy w' (some rb)) => grown_trans (grown_of_below (below_drewN (Below.refl _ W) k) (some rb)) g)
  have HH := Lib.hid h
  unfold Lx.name
  by_cases z : s.wrong = 0
  · have e3 : (W.cell? ⟨rb, 3, none⟩) = some (.int .i64 0) := by rw [c3, z]
    clear c3
    by_cases lt : s.at_ < n
    · have lt' : (s.at_ : Int) < (n : Int) := by omega
      have HN := Lib.hid (fun k => h.nx lt k)
      obtain ⟨b, p, rfl, t0, t1, t2⟩ := h.tok s.at_ lt
      obtain ⟨⟨k1, k2, k3⟩, hk⟩ : ∃ t, Lx.tkAt l s.at_ = t := ⟨_, rfl⟩
      rw [hk] at t0 t1 t2
      dsimp only at t0 t1 t2
      by_cases q1 : k1 = 1
      · have hm : Lx.isNm l s.at_ = true := by unfold Lx.isNm; rw [hk]; exact decide_eq_true q1
        rw [hm, take_yes' z, hk]
        dsimp only
        obtain ⟨sb, hsb⟩ : ∃ sb : ByteArray, ⟨k2.toArray⟩ = sb := ⟨_, rfl⟩
        rw [hsb] at t1 ⊢
        have HTS : Hid (∀ W', Rr w0 W' rb (some ⟨b, p, none⟩) n c l ⟨s.at_ + 1, s.parts, s.wrong⟩ → W'.cell? ⟨rb, 0, none⟩ = some (.slice (some ⟨b, p, none⟩) n c) ∧ W'.cell? ⟨rb, 1, none⟩ = some (.int .i64 ((s.at_ : Int) + 1)) ∧ W'.cell? ⟨b, p + s.at_ * 3 + 1, none⟩ = some (.string sb)) := Lib.hid (fun W' q => by
          obtain ⟨b', p', e, _, x1, _⟩ := q.tok s.at_ lt
          cases e
          rw [hk, hsb] at x1
          exact ⟨q.cells.1, q.cells.2.1, x1⟩)
        clear hm hk h z t2 HF hsb
        subst q1
        have a2 : (s.at_ : Int) + 1 ≤ 9223372036854775807 := by omega
        go_enter Tryd.func38, Tryd.ntmps38
        go_upto_region 3 with fail
        go_quiet (fail)
        go_upto_region 5 with fail
        have HRS := Lib.hid (HN.out nq)
        obtain ⟨x0, x1, x2⟩ := HTS.out _ HRS.out
        have HGS := Lib.hid (HG.out _ _ (grow_cell (W.drewN nq) ⟨rb, 1, none⟩ (.int .i64 ((s.at_ : Int) + 1))))
        obtain ⟨wS, hwS⟩ : ∃ y, (W.drewN nq).setCell ⟨rb, 1, none⟩ (.int .i64 ((s.at_ : Int) + 1)) = y := ⟨_, rfl⟩
        rw [hwS] at HRS x0 x1 x2 HGS ⊢
        clear hwS HTS HN HG t0 t1 c0 c1 c2 e3 f1
        have HD := Lib.hid (fun k => HRS.out.drew k)
        go_quiet (fail)
        go_wp2_with fail
        go_returns
        exact ⟨rfl, Lib.hid (HD.out _), Lib.hid (grown_trans HGS.out (grown_of_below (below_drewN (Below.refl _ wS) _) _))⟩
      · have e1 : (k1 == 1) = false := by rw [beq_eq_false_iff_ne]; exact q1
        have hm : Lx.isNm l s.at_ = false := by unfold Lx.isNm; rw [hk]; exact decide_eq_false q1
        rw [failR_ok z] at HF
        rw [hm, take_no' z]
        clear hm hk h z t2 q1 HN
        go_enter Tryd.func38, Tryd.ntmps38
        go_upto_region 3 with fail
        go_quiet (fail)
        go_wp2_with fail
        (with_reducible refine (HF.out _).mono ?_)
        rintro e w2 ⟨rfl, HR2, HG2⟩
        go_wp2_with fail
        go_returns
        exact ⟨rfl, HR2, Lib.hid (HG.out _ _ HG2.out)⟩
    · have lt' : ¬ (s.at_ : Int) < (n : Int) := by omega
      have lt2 : decide ((s.at_ : Int) < (n : Int)) = false := by simpa using lt'
      have hm : Lx.isNm l s.at_ = false := by unfold Lx.isNm; rw [h.end_ (by omega)]; rfl
      rw [failR_ok z] at HF
      rw [hm, take_no' z]
      clear h z hm lt
      go_enter Tryd.func38, Tryd.ntmps38
      go_upto_region 3 with fail
      go_quiet (fail)
      go_wp2_with fail
      (with_reducible refine (HF.out _).mono ?_)
      rintro e w2 ⟨rfl, HR2, HG2⟩
      go_wp2_with fail
      go_returns
      exact ⟨rfl, HR2, Lib.hid (HG.out _ _ HG2.out)⟩
  · have z2 : (s.wrong != 0) = true := by rw [bne_iff_ne]; exact z
    rw [take_bad' z]
    clear h z HF
    go_enter Tryd.func38, Tryd.ntmps38
    go_wp2_with fail
    go_returns
    exact ⟨rfl, HH, Lib.hid (grown_of_below (Below.refl _ W) _)⟩

set_option maxHeartbeats 4000000 in
theorem rdnumber_any (w0 W : World) (rb : Nat) (ao : Option Addr) (n c : Nat) (l : List Lx.Tk) (s : Lx.St) (h : Rr w0 W rb ao n c l s) :
    Calls Tryd.prog 39 #[.pointer (some ⟨rb, 0, none⟩)] W fun en w' => en = .returned (.int .i64 (Lx.number l s).1) ∧ Hid (Rr w0 w' rb ao n c l (Lx.number l s).2) ∧ Hid (W.grownBy w' (some rb)) := by
  obtain ⟨c0, c1, c2, c3⟩ := h.cells
  have nl := h.nlt
  have n1 : (n : Int) ≤ 9223372036854775807 := by omega
  have n0 : (0 : Int) ≤ (n : Int) := by omega
  have a0 : (0 : Int) ≤ (s.at_ : Int) := by omega
  have a1 : (s.at_ : Int) ≤ 9223372036854775807 := by have := h.top; omega
  have f1 := blk_free h.box 1
  have HF := Lib.hid (fun k => rfail_any w0 (W.drewN k) rb ao n c l s 110 (h.drew k))
  have HG := Lib.hid (fun k (w' : World) (g : (W.drewN k).grownBy w' (some rb)) => grown_trans (grown_of_below (below_drewN (Below.refl _ W) k) (some rb)) g)
  have HH := Lib.hid h
  unfold Lx.number
  by_cases z : s.wrong = 0
  · have e3 : (W.cell? ⟨rb, 3, none⟩) = some (.int .i64 0) := by rw [c3, z]
    clear c3
    by_cases lt : s.at_ < n
    · have lt' : (s.at_ : Int) < (n : Int) := by omega
      have HN := Lib.hid (fun k => h.nx lt k)
      obtain ⟨b, p, rfl, t0, t1, t2⟩ := h.tok s.at_ lt
      obtain ⟨⟨k1, k2, k3⟩, hk⟩ : ∃ t, Lx.tkAt l s.at_ = t := ⟨_, rfl⟩
      rw [hk] at t0 t1 t2
      dsimp only at t0 t1 t2
      by_cases q1 : k1 = 2
      · have hm : Lx.isNu l s.at_ = true := by unfold Lx.isNu; rw [hk]; exact decide_eq_true (.inl q1)
        rw [hm, take_yes' z, hk]
        dsimp only
        have HTS : Hid (∀ W', Rr w0 W' rb (some ⟨b, p, none⟩) n c l ⟨s.at_ + 1, s.parts, s.wrong⟩ → W'.cell? ⟨rb, 0, none⟩ = some (.slice (some ⟨b, p, none⟩) n c) ∧ W'.cell? ⟨rb, 1, none⟩ = some (.int .i64 ((s.at_ : Int) + 1)) ∧ W'.cell? ⟨b, p + s.at_ * 3 + 2, none⟩ = some (.int .i64 k3)) := Lib.hid (fun W' q => by
          obtain ⟨b', p', e, _, _, x1⟩ := q.tok s.at_ lt
          cases e
          rw [hk] at x1
          exact ⟨q.cells.1, q.cells.2.1, x1⟩)
        clear hm hk h z t2 HF t1
        subst q1
        have a2 : (s.at_ : Int) + 1 ≤ 9223372036854775807 := by omega
        go_enter Tryd.func39, Tryd.ntmps39
        go_upto_region 3 with fail
        go_quiet (fail)
        go_upto_region 5 with fail
        have HRS := Lib.hid (HN.out nq)
        obtain ⟨x0, x1, x2⟩ := HTS.out _ HRS.out
        have HGS := Lib.hid (HG.out _ _ (grow_cell (W.drewN nq) ⟨rb, 1, none⟩ (.int .i64 ((s.at_ : Int) + 1))))
        obtain ⟨wS, hwS⟩ : ∃ y, (W.drewN nq).setCell ⟨rb, 1, none⟩ (.int .i64 ((s.at_ : Int) + 1)) = y := ⟨_, rfl⟩
        rw [hwS] at HRS x0 x1 x2 HGS ⊢
        clear hwS HTS HN HG t0 c0 c1 c2 e3 f1
        have HD := Lib.hid (fun k => HRS.out.drew k)
        go_quiet (fail)
        go_wp2_with fail
        go_returns
        exact ⟨rfl, Lib.hid (HD.out _), Lib.hid (grown_trans HGS.out (grown_of_below (below_drewN (Below.refl _ wS) _) _))⟩
      · by_cases q1' : k1 = 3
        · have q1 := q1'
          have hm : Lx.isNu l s.at_ = true := by unfold Lx.isNu; rw [hk]; exact decide_eq_true (.inr q1)
          rw [hm, take_yes' z, hk]
          dsimp only
          have HTS : Hid (∀ W', Rr w0 W' rb (some ⟨b, p, none⟩) n c l ⟨s.at_ + 1, s.parts, s.wrong⟩ → W'.cell? ⟨rb, 0, none⟩ = some (.slice (some ⟨b, p, none⟩) n c) ∧ W'.cell? ⟨rb, 1, none⟩ = some (.int .i64 ((s.at_ : Int) + 1)) ∧ W'.cell? ⟨b, p + s.at_ * 3 + 2, none⟩ = some (.int .i64 k3)) := Lib.hid (fun W' q => by
            obtain ⟨b', p', e, _, _, x1⟩ := q.tok s.at_ lt
            cases e
            rw [hk] at x1
            exact ⟨q.cells.1, q.cells.2.1, x1⟩)
          clear hm hk h z t2 HF t1
          clear q1
          subst q1'
          have a2 : (s.at_ : Int) + 1 ≤ 9223372036854775807 := by omega
          go_enter Tryd.func39, Tryd.ntmps39
          go_upto_region 3 with fail
          go_quiet (fail)
          go_upto_region 5 with fail
          have HRS := Lib.hid (HN.out nq)
          obtain ⟨x0, x1, x2⟩ := HTS.out _ HRS.out
          have HGS := Lib.hid (HG.out _ _ (grow_cell (W.drewN nq) ⟨rb, 1, none⟩ (.int .i64 ((s.at_ : Int) + 1))))
          obtain ⟨wS, hwS⟩ : ∃ y, (W.drewN nq).setCell ⟨rb, 1, none⟩ (.int .i64 ((s.at_ : Int) + 1)) = y := ⟨_, rfl⟩
          rw [hwS] at HRS x0 x1 x2 HGS ⊢
          clear hwS HTS HN HG t0 c0 c1 c2 e3 f1
          have HD := Lib.hid (fun k => HRS.out.drew k)
          go_quiet (fail)
          go_wp2_with fail
          go_returns
          exact ⟨rfl, Lib.hid (HD.out _), Lib.hid (grown_trans HGS.out (grown_of_below (below_drewN (Below.refl _ wS) _) _))⟩
        · have e1 : (k1 == 2) = false := by rw [beq_eq_false_iff_ne]; exact q1
          have e2 : (k1 == 3) = false := by rw [beq_eq_false_iff_ne]; exact q1'
          have hm : Lx.isNu l s.at_ = false := by unfold Lx.isNu; rw [hk]; exact decide_eq_false (fun e => e.elim q1 q1')
          rw [failR_ok z] at HF
          rw [hm, take_no' z]
          clear hm hk h z t2 q1 q1' HN
          go_enter Tryd.func39, Tryd.ntmps39
          go_upto_region 3 with fail
          go_quiet (fail)
          go_wp2_with fail
          (with_reducible refine (HF.out _).mono ?_)
          rintro e w2 ⟨rfl, HR2, HG2⟩
          go_wp2_with fail
          go_returns
          exact ⟨rfl, HR2, Lib.hid (HG.out _ _ HG2.out)⟩
    · have lt' : ¬ (s.at_ : Int) < (n : Int) := by omega
      have lt2 : decide ((s.at_ : Int) < (n : Int)) = false := by simpa using lt'
      have hm : Lx.isNu l s.at_ = false := by unfold Lx.isNu; rw [h.end_ (by omega)]; rfl
      rw [failR_ok z] at HF
      rw [hm, take_no' z]
      clear h z hm lt
      go_enter Tryd.func39, Tryd.ntmps39
      go_upto_region 3 with fail
      go_quiet (fail)
      go_wp2_with fail
      (with_reducible refine (HF.out _).mono ?_)
      rintro e w2 ⟨rfl, HR2, HG2⟩
      go_wp2_with fail
      go_returns
      exact ⟨rfl, HR2, Lib.hid (HG.out _ _ HG2.out)⟩
  · have z2 : (s.wrong != 0) = true := by rw [bne_iff_ne]; exact z
    rw [take_bad' z]
    clear h z HF
    go_enter Tryd.func39, Tryd.ntmps39
    go_wp2_with fail
    go_returns
    exact ⟨rfl, HH, Lib.hid (grown_of_below (Below.refl _ W) _)⟩

/-- What end tells. -/
def endV (l : List Lx.Tk) (s : Lx.St) : Value := .tuple #[.int .i64 (if (Lx.failed l s).wrong = 0 then -1 else ((Lx.failed l s).at_ : Int)), .int .i64 (Lx.failed l s).wrong]
set_option maxHeartbeats 4000000 in
theorem rdend_any (w0 W : World) (rb : Nat) (ao : Option Addr) (n c : Nat) (l : List Lx.Tk) (s : Lx.St) (h : Rr w0 W rb ao n c l s) :
    Calls Tryd.prog 33 #[.pointer (some ⟨rb, 0, none⟩)] W fun en w' => en = .returned (endV l s) ∧ Hid (W.grownBy w' (some rb)) := by
  obtain ⟨c0, c1, c2, c3⟩ := h.cells
  have nl := h.nlt
  have n1 : (n : Int) ≤ 9223372036854775807 := by omega
  have n0 : (0 : Int) ≤ (n : Int) := by omega
  have a0 : (0 : Int) ≤ (s.at_ : Int) := by omega
  have a1 : (s.at_ : Int) ≤ 9223372036854775807 := by have := h.top; omega
  have f1 := blk_free h.box 1
  have HF := Lib.hid (fun k => rfail_any w0 (W.drewN k) rb ao n c l s 110 (h.drew k))
  have HG := Lib.hid (fun k (w' : World) (g : (W.drewN k).grownBy w' (some rb)) => grown_trans (grown_of_below (below_drewN (Below.refl _ W) k) (some rb)) g)
  have HH := Lib.hid h
  have f3 := blk_free h.box 3
  have hln : l.length = n := h.tk.len
  by_cases z : s.wrong = 0
  · have e3 : (W.cell? ⟨rb, 3, none⟩) = some (.int .i64 0) := by rw [c3, z]
    clear c3
    by_cases lt : s.at_ < n
    · have lt' : (s.at_ : Int) < (n : Int) := by omega
      have hf : Lx.failed l s = ⟨s.at_, s.parts, 110⟩ := if_pos ⟨z, by rw [hln]; exact lt⟩
      have ev : endV l s = .tuple #[.int .i64 s.at_, .int .i64 110] := by unfold endV; rw [hf]; rfl
      rw [ev]
      clear hf ev
      have HN := Lib.hid (fun k => (h.drew k).wrong 110)
      clear hln h z HF
      go_enter Tryd.func33, Tryd.ntmps33
      go_upto_region 1 with fail
      go_quiet (fail)
      go_upto_region 3 with fail
      have HRS := Lib.hid (HN.out nq)
      obtain ⟨x0, x1, x2, x3⟩ := HRS.out.cells
      dsimp only at x1 x3
      have HGS := Lib.hid (HG.out _ _ (grow_cell (W.drewN nq) ⟨rb, 3, none⟩ (.int .i64 110)))
      obtain ⟨wS, hwS⟩ : ∃ y, (W.drewN nq).setCell ⟨rb, 3, none⟩ (.int .i64 110) = y := ⟨_, rfl⟩
      rw [hwS] at HRS x0 x1 x2 x3 HGS ⊢
      clear hwS HN HG c0 c1 c2 e3 f1 f3
      go_upto_region 4 with fail
      go_quiet (fail)
      go_wp2_with fail
      go_returns
      exact ⟨rfl, Lib.hid (grown_trans HGS.out (grown_of_below (below_drewN (Below.refl _ wS) _) _))⟩
    · have lt' : ¬ (s.at_ : Int) < (n : Int) := by omega
      have lt2 : decide ((s.at_ : Int) < (n : Int)) = false := by simpa using lt'
      have hf : Lx.failed l s = s := if_neg (fun e => lt (by rw [← hln]; exact e.2))
      have ev : endV l s = .tuple #[.int .i64 (-1), .int .i64 0] := by unfold endV; rw [hf, if_pos z, z]
      rw [ev]
      clear hf ev
      clear hln h z lt HF
      go_enter Tryd.func33, Tryd.ntmps33
      go_upto_region 1 with fail
      go_quiet (fail)
      go_wp2_with fail
      go_returns
      exact ⟨rfl, Lib.hid (grown_of_below (below_drewN (Below.refl _ W) _) _)⟩
  · have z2 : (s.wrong != 0) = true := by rw [bne_iff_ne]; exact z
    have z3 : (s.wrong == 0) = false := by rw [beq_eq_false_iff_ne]; exact z
    have hf : Lx.failed l s = s := if_neg (fun e => z e.1)
    have ev : endV l s = .tuple #[.int .i64 s.at_, .int .i64 s.wrong] := by unfold endV; rw [hf, if_neg z]
    rw [ev]
    clear hf ev
    clear h z HF hln
    go_enter Tryd.func33, Tryd.ntmps33
    go_upto_region 1 with fail
    go_quiet (fail)
    go_upto_region 4 with fail
    go_quiet (fail)
    go_wp2_with fail
    go_returns
    exact ⟨rfl, Lib.hid (grown_trans (grown_of_below (below_drewN (Below.refl _ W) _) _) (grown_of_below (below_drewN (Below.refl _ _) _) _))⟩
namespace Lx
/-- One end of a range, as the reference reads it: a number, but where a mark comes. -/
def endR (l : List Tk) (s : St) (m : List UInt8) : (Int × Bool) × St := if s.wrong = 0 ∧ isMk l s.at_ m = true then ((0, false), s) else (((number l s).1, true), (number l s).2)
theorem endR_eq (l : List Tk) (s : St) (m : List UInt8) : mark l (endR l s m).2 m = mark l (endE l s).2 m ∧ ((mark l (endE l s).2 m).wrong = 0 → (endR l s m).1 = (endE l s).1) := by
  by_cases z : s.wrong = 0
  · by_cases k : isMk l s.at_ m = true
    · have hn : isNu l s.at_ = false := by
        have := of_decide_eq_true k
        unfold isNu; rw [this.1]; rfl
      have e1 : endR l s m = ((0, false), s) := if_pos ⟨z, k⟩
      have e2 : endE l s = ((0, false), s) := if_pos (.inr hn)
      rw [e1, e2]; exact ⟨rfl, fun _ => rfl⟩
    · have e1 : endR l s m = (((number l s).1, true), (number l s).2) := if_neg (fun e => k e.2)
      by_cases hn : isNu l s.at_ = true
      · have e2 : endE l s = (((number l s).1, true), (number l s).2) := if_neg (fun e => e.elim (fun q => q z) (fun q => by rw [hn] at q; cases q))
        rw [e1, e2]; exact ⟨rfl, fun _ => rfl⟩
      · have hn : isNu l s.at_ = false := by simpa using hn
        have e2 : endE l s = ((0, false), s) := if_pos (.inr hn)
        have k : isMk l s.at_ m = false := by simpa using k
        have n2 : (number l s).2 = ⟨s.at_, s.parts, 110⟩ := by unfold number; rw [hn, take_no' z]
        have m1 : mark l s m = ⟨s.at_, s.parts, 110⟩ := by unfold mark; rw [k, take_no' z]
        have m2 : mark l ⟨s.at_, s.parts, 110⟩ m = ⟨s.at_, s.parts, 110⟩ := by unfold mark; rw [take_bad' (by show ¬ (110 : Int) = 0; decide)]
        rw [e1, e2]
        dsimp only
        rw [n2, m2, m1]
        exact ⟨rfl, fun q => absurd (show (110 : Int) = 0 from q) (by decide)⟩
  · have e1 : endR l s m = (((number l s).1, true), (number l s).2) := if_neg (fun e => z e.1)
    have e2 : endE l s = ((0, false), s) := if_pos (.inl z)
    have n2 : (number l s).2 = s := by unfold number; rw [take_bad' z]
    have m1 : mark l s m = s := by unfold mark; rw [take_bad' z]
    rw [e1, e2]
    dsimp only
    rw [n2, m1]
    exact ⟨rfl, fun q => absurd q z⟩
/-- A range, as the reference reads it. -/
def spanR (l : List Tk) (s : St) : Rg × St :=
  (⟨(endR l (mark l s [91]) [58]).1.1, (endR l (mark l (endR l (mark l s [91]) [58]).2 [58]) [93]).1.1, (endR l (mark l s [91]) [58]).1.2, (endR l (mark l (endR l (mark l s [91]) [58]).2 [58]) [93]).1.2⟩,
   mark l (endR l (mark l (endR l (mark l s [91]) [58]).2 [58]) [93]).2 [93])
theorem spanR_eq (l : List Tk) (s : St) : (spanR l s).2 = (span l s).2 ∧ ((span l s).2.wrong = 0 → (spanR l s).1 = (span l s).1) := by
  have h1 := endR_eq l (mark l s [91]) [58]
  have h2 := endR_eq l (mark l (endE l (mark l s [91])).2 [58]) [93]
  unfold spanR
  rw [h1.1]
  refine ⟨h2.1, fun q => ?_⟩
  have q : (mark l (endE l (mark l (endE l (mark l s [91])).2 [58])).2 [93]).wrong = 0 := q
  have b := h2.2 q
  have c1 := (take_ok (show (take l _ _).2.wrong = 0 from q)).1
  have c2 := (endE_len c1).1
  have a := h1.2 c2
  rw [a, b]
  rfl
end Lx

structure Sc (w0 W w : World) (b rb : Nat) (ao : Option Addr) (n c : Nat) (l : List Lx.Tk) (s : Lx.St) (lo hi : Int) (hl hh : Bool) : Prop where
  rr : Rr w0 w rb ao n c l s
  lt : rb < b
  out : w.heap[b + 1]? = some (.cells #[.int .i64 lo, .int .i64 hi, .bool hl, .bool hh] 37 (0, 0))
  res : w.heap[b]? = some (.cells #[.int .i64 0, .int .i64 0, .bool false, .bool false] 37 (0, 0))
  gr : W.grownBy w (some rb)
  bw : W.heap.size ≤ b
theorem Sc.step {w0 W w w' : World} {b rb : Nat} {ao : Option Addr} {n c : Nat} {l : List Lx.Tk} {s s' : Lx.St} {lo hi : Int} {hl hh : Bool} (h : Sc w0 W w b rb ao n c l s lo hi hl hh) (r : Rr w0 w' rb ao n c l s') (g : w.grownBy w' (some rb)) : Sc w0 W w' b rb ao n c l s' lo hi hl hh :=
  ⟨r, h.lt, (g.block _ (Array.getElem?_eq_some_iff.1 h.out).1 (by intro e; have := Option.some.inj e; have := h.lt; omega)).trans h.out, (g.block _ (Array.getElem?_eq_some_iff.1 h.res).1 (by intro e; have := Option.some.inj e; have := h.lt; omega)).trans h.res, grown_trans h.gr g, h.bw⟩
theorem Sc.put {w0 W w w' : World} {b rb : Nat} {ao : Option Addr} {n c : Nat} {l : List Lx.Tk} {s : Lx.St} {lo hi : Int} {hl hh : Bool} {k : Nat} {v : Value} {cs : Array Value} (h : Sc w0 W w b rb ao n c l s lo hi hl hh) (hw : w.setCell ⟨b + 1, k, none⟩ v = w') (hc : w'.heap[b + 1]? = some (.cells cs 37 (0, 0))) : Rr w0 w' rb ao n c l s ∧ w'.heap[b]? = some (.cells #[.int .i64 0, .int .i64 0, .bool false, .bool false] 37 (0, 0)) ∧ W.grownBy w' (some rb) := by
  subst hw
  have g := grow_cell w ⟨b + 1, k, none⟩ v
  refine ⟨h.rr.grown g (fun q e => ?_), ?_, ?_⟩
  · have e : b + 1 = q := Option.some.inj e
    have := h.rr.lo; have := h.lt; omega
  · exact (g.block b (Array.getElem?_eq_some_iff.1 h.res).1 (by intro e; have : b = b + 1 := Option.some.inj e; omega)).trans h.res
  · exact ⟨g.os.trans h.gr.os, g.tape.trans h.gr.tape, g.output.trans h.gr.output, Nat.le_trans h.gr.size g.size, fun q hq hne => (g.block q (Nat.lt_of_lt_of_le hq h.gr.size) (by intro e; have : q = b + 1 := Option.some.inj e; have := h.bw; omega)).trans (h.gr.block q hq hne)⟩
theorem Sc.set0 {w0 W w : World} {b rb : Nat} {ao : Option Addr} {n c : Nat} {l : List Lx.Tk} {s : Lx.St} {lo hi : Int} {hl hh : Bool} (h : Sc w0 W w b rb ao n c l s lo hi hl hh) (z : Int) : Sc w0 W (w.setCell ⟨b + 1, 0, none⟩ (.int .i64 z)) b rb ao n c l s z hi hl hh := by
  have hc : (w.setCell ⟨b + 1, 0, none⟩ (.int .i64 z)).heap[b + 1]? = some (.cells #[.int .i64 z, .int .i64 hi, .bool hl, .bool hh] 37 (0, 0)) := by rw [set_block h.out]; rfl
  obtain ⟨a, d, e⟩ := h.put rfl hc
  exact ⟨a, h.lt, hc, d, e, h.bw⟩
theorem Sc.set1 {w0 W w : World} {b rb : Nat} {ao : Option Addr} {n c : Nat} {l : List Lx.Tk} {s : Lx.St} {lo hi : Int} {hl hh : Bool} (h : Sc w0 W w b rb ao n c l s lo hi hl hh) (z : Int) : Sc w0 W (w.setCell ⟨b + 1, 1, none⟩ (.int .i64 z)) b rb ao n c l s lo z hl hh := by
  have hc : (w.setCell ⟨b + 1, 1, none⟩ (.int .i64 z)).heap[b + 1]? = some (.cells #[.int .i64 lo, .int .i64 z, .bool hl, .bool hh] 37 (0, 0)) := by rw [set_block h.out]; rfl
  obtain ⟨a, d, e⟩ := h.put rfl hc
  exact ⟨a, h.lt, hc, d, e, h.bw⟩
theorem Sc.set2 {w0 W w : World} {b rb : Nat} {ao : Option Addr} {n c : Nat} {l : List Lx.Tk} {s : Lx.St} {lo hi : Int} {hl hh : Bool} (h : Sc w0 W w b rb ao n c l s lo hi hl hh) : Sc w0 W (w.setCell ⟨b + 1, 2, none⟩ (.bool true)) b rb ao n c l s lo hi true hh := by
  have hc : (w.setCell ⟨b + 1, 2, none⟩ (.bool true)).heap[b + 1]? = some (.cells #[.int .i64 lo, .int .i64 hi, .bool true, .bool hh] 37 (0, 0)) := by rw [set_block h.out]; rfl
  obtain ⟨a, d, e⟩ := h.put rfl hc
  exact ⟨a, h.lt, hc, d, e, h.bw⟩
theorem Sc.set3 {w0 W w : World} {b rb : Nat} {ao : Option Addr} {n c : Nat} {l : List Lx.Tk} {s : Lx.St} {lo hi : Int} {hl hh : Bool} (h : Sc w0 W w b rb ao n c l s lo hi hl hh) : Sc w0 W (w.setCell ⟨b + 1, 3, none⟩ (.bool true)) b rb ao n c l s lo hi hl true := by
  have hc : (w.setCell ⟨b + 1, 3, none⟩ (.bool true)).heap[b + 1]? = some (.cells #[.int .i64 lo, .int .i64 hi, .bool hl, .bool true] 37 (0, 0)) := by rw [set_block h.out]; rfl
  obtain ⟨a, d, e⟩ := h.put rfl hc
  exact ⟨a, h.lt, hc, d, e, h.bw⟩
theorem Sc.fin {w0 W w : World} {b rb : Nat} {ao : Option Addr} {n c : Nat} {l : List Lx.Tk} {s : Lx.St} {lo hi : Int} {hl hh : Bool} (h : Sc w0 W w b rb ao n c l s lo hi hl hh) : ((((w.setCell ⟨b, 0, none⟩ (.int .i64 lo)).setCell ⟨b, 1, none⟩ (.int .i64 hi)).setCell ⟨b, 2, none⟩ (.bool hl)).setCell ⟨b, 3, none⟩ (.bool hh)).heap[b]? = some (.cells #[.int .i64 lo, .int .i64 hi, .bool hl, .bool hh] 37 (0, 0)) ∧ Rr w0 ((((w.setCell ⟨b, 0, none⟩ (.int .i64 lo)).setCell ⟨b, 1, none⟩ (.int .i64 hi)).setCell ⟨b, 2, none⟩ (.bool hl)).setCell ⟨b, 3, none⟩ (.bool hh)) rb ao n c l s ∧ W.grownBy ((((w.setCell ⟨b, 0, none⟩ (.int .i64 lo)).setCell ⟨b, 1, none⟩ (.int .i64 hi)).setCell ⟨b, 2, none⟩ (.bool hl)).setCell ⟨b, 3, none⟩ (.bool hh)) (some rb) := by
  have a1 : (w.setCell ⟨b, 0, none⟩ (.int .i64 lo)).heap[b]? = some (.cells #[.int .i64 lo, .int .i64 0, .bool false, .bool false] 37 (0, 0)) := by rw [set_block h.res]; rfl
  have a2 : ((w.setCell ⟨b, 0, none⟩ (.int .i64 lo)).setCell ⟨b, 1, none⟩ (.int .i64 hi)).heap[b]? = some (.cells #[.int .i64 lo, .int .i64 hi, .bool false, .bool false] 37 (0, 0)) := by rw [set_block a1]; rfl
  have a3 : (((w.setCell ⟨b, 0, none⟩ (.int .i64 lo)).setCell ⟨b, 1, none⟩ (.int .i64 hi)).setCell ⟨b, 2, none⟩ (.bool hl)).heap[b]? = some (.cells #[.int .i64 lo, .int .i64 hi, .bool hl, .bool false] 37 (0, 0)) := by rw [set_block a2]; rfl
  have a4 : ((((w.setCell ⟨b, 0, none⟩ (.int .i64 lo)).setCell ⟨b, 1, none⟩ (.int .i64 hi)).setCell ⟨b, 2, none⟩ (.bool hl)).setCell ⟨b, 3, none⟩ (.bool hh)).heap[b]? = some (.cells #[.int .i64 lo, .int .i64 hi, .bool hl, .bool hh] 37 (0, 0)) := by rw [set_block a3]; rfl
  have g : w.grownBy ((((w.setCell ⟨b, 0, none⟩ (.int .i64 lo)).setCell ⟨b, 1, none⟩ (.int .i64 hi)).setCell ⟨b, 2, none⟩ (.bool hl)).setCell ⟨b, 3, none⟩ (.bool hh)) (some b) := grown_trans (grow_cell w ⟨b, 0, none⟩ _) (grown_trans (grow_cell _ ⟨b, 1, none⟩ _) (grown_trans (grow_cell _ ⟨b, 2, none⟩ _) (grow_cell _ ⟨b, 3, none⟩ _)))
  refine ⟨a4, h.rr.grown g (fun q e => ?_), ⟨g.os.trans h.gr.os, g.tape.trans h.gr.tape, g.output.trans h.gr.output, Nat.le_trans h.gr.size g.size, fun q hq hne => (g.block q (Nat.lt_of_lt_of_le hq h.gr.size) (by intro e; have : q = b := Option.some.inj e; have := h.bw; omega)).trans (h.gr.block q hq hne)⟩⟩
  have e : b = q := Option.some.inj e
  have := h.rr.lo; have := h.lt; omega
theorem rmrk_l (w0 W : World) (rb : Nat) (ao : Option Addr) (n c : Nat) (l : List Lx.Tk) (s : Lx.St) (m : List UInt8) (h : Rr w0 W rb ao n c l s) :
    Calls Tryd.prog 41 #[.pointer (some ⟨rb, 0, none⟩), .string ⟨m.toArray⟩] W fun en w' => en = .returned (.tuple #[]) ∧ Hid (Rr w0 w' rb ao n c l (Lx.mark l s m)) ∧ Hid (W.grownBy w' (some rb)) := rmrk_any w0 W rb ao n c l s ⟨m.toArray⟩ h
theorem ris_l (w0 W : World) (rb : Nat) (ao : Option Addr) (n c : Nat) (l : List Lx.Tk) (s : Lx.St) (m : List UInt8) (h : Rr w0 W rb ao n c l s) :
    Calls Tryd.prog 51 #[.pointer (some ⟨rb, 0, none⟩), .string ⟨m.toArray⟩] W fun en w' => en = .returned (.bool (decide (s.wrong = 0) && Lx.isMk l s.at_ m)) ∧ ∃ k, w' = W.drewN k := ris_any w0 W rb ao n c l s ⟨m.toArray⟩ h
theorem not_both {l : List Lx.Tk} {s : Lx.St} {m : List UInt8} (h : ¬ (s.wrong = 0 ∧ Lx.isMk l s.at_ m = true)) : (decide (s.wrong = 0) && Lx.isMk l s.at_ m) = false := by
  cases q : (decide (s.wrong = 0) && Lx.isMk l s.at_ m)
  · rfl
  · rw [Bool.and_eq_true, decide_eq_true_iff] at q; exact absurd q h
theorem both_ {l : List Lx.Tk} {s : Lx.St} {m : List UInt8} (h : s.wrong = 0 ∧ Lx.isMk l s.at_ m = true) : (decide (s.wrong = 0) && Lx.isMk l s.at_ m) = true := by
  rw [Bool.and_eq_true, decide_eq_true_iff]; exact h
set_option maxRecDepth 20000 in
set_option maxHeartbeats 4000000 in
theorem rdspan_any (w0 W : World) (rb : Nat) (ao : Option Addr) (n c : Nat) (l : List Lx.Tk) (s : Lx.St) (h : Rr w0 W rb ao n c l s) :
    Calls Tryd.prog 40 #[.pointer (some ⟨rb, 0, none⟩)] W fun en w' => en = .returned (.agg #[.int .i64 (Lx.spanR l s).1.low, .int .i64 (Lx.spanR l s).1.high, .bool (Lx.spanR l s).1.hl, .bool (Lx.spanR l s).1.hh]) ∧ Hid (Rr w0 w' rb ao n c l (Lx.spanR l s).2) ∧ Hid (W.grownBy w' (some rb)) := by
  obtain ⟨b, hb⟩ : ∃ b, W.heap.size = b := ⟨_, rfl⟩
  obtain ⟨w1, hw1⟩ : ∃ y, (W.alloc (.cells #[.int .i64 0, .int .i64 0, .bool false, .bool false] 37)).alloc (.cells #[.int .i64 0, .int .i64 0, .bool false, .bool false] 37) = y := ⟨_, rfl⟩
  have KA : Below W.heap.size W w1 := by rw [← hw1]; exact ((Below.refl _ W).alloc (Nat.le_refl _) _).alloc (by simp) _
  have HS : Hid (Sc w0 W w1 b rb ao n c l s 0 0 false false) := Lib.hid ⟨h.keep KA, by have := h.lt; omega, by
    rw [← hw1, ← hb]
    have := al_new (W.alloc (.cells #[.int .i64 0, .int .i64 0, .bool false, .bool false] 37)) (.cells #[.int .i64 0, .int .i64 0, .bool false, .bool false] 37)
    simpa using this, by rw [← hw1, ← hb, al_old _ _ (by simp), al_new], grown_of_below KA _, by omega⟩
  have HWX := Lib.hid hw1
  have HBX := Lib.hid hb
  unfold Lx.spanR
  dsimp only
  clear h KA hw1 hb
  by_cases A : (Lx.mark l s [91]).wrong = 0 ∧ Lx.isMk l (Lx.mark l s [91]).at_ [58] = true
  · have eA : Lx.endR l (Lx.mark l s [91]) [58] = ((0, false), Lx.mark l s [91]) := if_pos A
    have hA := both_ A
    rw [eA]
    dsimp only
    clear eA A
    by_cases B : (Lx.mark l (Lx.mark l s [91]) [58]).wrong = 0 ∧ Lx.isMk l (Lx.mark l (Lx.mark l s [91]) [58]).at_ [93] = true
    · have eB : Lx.endR l (Lx.mark l (Lx.mark l s [91]) [58]) [93] = ((0, false), Lx.mark l (Lx.mark l s [91]) [58]) := if_pos B
      have hB := both_ B
      rw [eB]
      dsimp only
      clear eB B
      go_enter Tryd.func40, Tryd.ntmps40
      go_upto_region 2 with fail
      try rw [HBX.out]
      try rw [HWX.out]
      clear HWX HBX
      have HM := Lib.hid (rmrk_l w0 w1 rb ao n c l s [91] HS.out.rr)
      go_wp2_with fail
      (with_reducible refine HM.out.mono ?_)
      rintro e w2 ⟨rfl, HR2, HG2⟩
      have HS := Lib.hid (HS.out.step HR2.out HG2.out)
      clear HM HR2 HG2
      have HI := Lib.hid (ris_l w0 w2 rb ao n c l (Lx.mark l s [91]) [58] HS.out.rr)
      rw [hA] at HI
      go_wp2_with fail
      (with_reducible refine HI.out.mono ?_)
      rintro e w3 ⟨rfl, kk, rfl⟩
      have HS := Lib.hid (HS.out.step (HS.out.rr.drew kk) (grown_of_below (below_drewN (Below.refl _ w2) kk) _))
      clear HI
      obtain ⟨w3, hw3⟩ : ∃ y, w2.drewN kk = y := ⟨_, rfl⟩
      rw [hw3] at HS ⊢
      clear hw3
      have HM := Lib.hid (rmrk_l w0 w3 rb ao n c l (Lx.mark l s [91]) [58] HS.out.rr)
      go_wp2_with fail
      (with_reducible refine HM.out.mono ?_)
      rintro e w4 ⟨rfl, HR2, HG2⟩
      have HS := Lib.hid (HS.out.step HR2.out HG2.out)
      clear HM HR2 HG2
      have HI := Lib.hid (ris_l w0 w4 rb ao n c l (Lx.mark l (Lx.mark l s [91]) [58]) [93] HS.out.rr)
      rw [hB] at HI
      go_wp2_with fail
      (with_reducible refine HI.out.mono ?_)
      rintro e wq ⟨rfl, kk, rfl⟩
      have HS := Lib.hid (HS.out.step (HS.out.rr.drew kk) (grown_of_below (below_drewN (Below.refl _ w4) kk) _))
      clear HI
      obtain ⟨wq, hwq⟩ : ∃ y, w4.drewN kk = y := ⟨_, rfl⟩
      rw [hwq] at HS ⊢
      clear hwq
      have HM := Lib.hid (rmrk_l w0 wq rb ao n c l (Lx.mark l (Lx.mark l s [91]) [58]) [93] HS.out.rr)
      go_wp2_with fail
      (with_reducible refine HM.out.mono ?_)
      rintro e w5 ⟨rfl, HR2, HG2⟩
      have HS := Lib.hid (HS.out.step HR2.out HG2.out)
      clear HM HR2 HG2
      have g0 := cell_blk HS.out.out 0
      have g1 := cell_blk HS.out.out 1
      have g2 := cell_blk HS.out.out 2
      have g3 := cell_blk HS.out.out 3
      have k1 := blk_free HS.out.out 1
      have k3 := blk_free HS.out.out 3
      have k0 := blk_free HS.out.out 0
      have k2 := blk_free HS.out.out 2
      have r0 := cell_blk HS.out.res 0
      have q0 := blk_free HS.out.res 0
      have r1 := cell_blk HS.out.res 1
      have q1 := blk_free HS.out.res 1
      have r2 := cell_blk HS.out.res 2
      have q2 := blk_free HS.out.res 2
      have r3 := cell_blk HS.out.res 3
      have q3 := blk_free HS.out.res 3
      have HF := Lib.hid HS.out.fin
      go_wp2_with fail
      obtain ⟨wF, hwF⟩ : ∃ y, ((((w5.setCell ⟨b, 0, none⟩ (.int .i64 0)).setCell ⟨b, 1, none⟩ (.int .i64 (0))).setCell ⟨b, 2, none⟩ (.bool false)).setCell ⟨b, 3, none⟩ (.bool false)) = y := ⟨_, rfl⟩
      rw [hwF] at HF ⊢
      clear hwF r0 r1 r2 r3
      have r0 := cell_blk HF.out.1 0
      have r1 := cell_blk HF.out.1 1
      have r2 := cell_blk HF.out.1 2
      have r3 := cell_blk HF.out.1 3
      exact bodyPost_ret (v := .agg #[.int .i64 (0), .int .i64 (0), .bool false, .bool false]) (by simp [results, Tryd.results40, go_sem, r0, r1, r2, r3]) rfl ⟨rfl, Lib.hid HF.out.2.1, Lib.hid HF.out.2.2⟩
    · have eB : Lx.endR l (Lx.mark l (Lx.mark l s [91]) [58]) [93] = (((Lx.number l (Lx.mark l (Lx.mark l s [91]) [58])).1, true), (Lx.number l (Lx.mark l (Lx.mark l s [91]) [58])).2) := if_neg B
      have hB := not_both B
      rw [eB]
      dsimp only
      clear eB B
      go_enter Tryd.func40, Tryd.ntmps40
      go_upto_region 2 with fail
      try rw [HBX.out]
      try rw [HWX.out]
      clear HWX HBX
      have HM := Lib.hid (rmrk_l w0 w1 rb ao n c l s [91] HS.out.rr)
      go_wp2_with fail
      (with_reducible refine HM.out.mono ?_)
      rintro e w2 ⟨rfl, HR2, HG2⟩
      have HS := Lib.hid (HS.out.step HR2.out HG2.out)
      clear HM HR2 HG2
      have HI := Lib.hid (ris_l w0 w2 rb ao n c l (Lx.mark l s [91]) [58] HS.out.rr)
      rw [hA] at HI
      go_wp2_with fail
      (with_reducible refine HI.out.mono ?_)
      rintro e w3 ⟨rfl, kk, rfl⟩
      have HS := Lib.hid (HS.out.step (HS.out.rr.drew kk) (grown_of_below (below_drewN (Below.refl _ w2) kk) _))
      clear HI
      obtain ⟨w3, hw3⟩ : ∃ y, w2.drewN kk = y := ⟨_, rfl⟩
      rw [hw3] at HS ⊢
      clear hw3
      have HM := Lib.hid (rmrk_l w0 w3 rb ao n c l (Lx.mark l s [91]) [58] HS.out.rr)
      go_wp2_with fail
      (with_reducible refine HM.out.mono ?_)
      rintro e w4 ⟨rfl, HR2, HG2⟩
      have HS := Lib.hid (HS.out.step HR2.out HG2.out)
      clear HM HR2 HG2
      have HI := Lib.hid (ris_l w0 w4 rb ao n c l (Lx.mark l (Lx.mark l s [91]) [58]) [93] HS.out.rr)
      rw [hB] at HI
      go_wp2_with fail
      (with_reducible refine HI.out.mono ?_)
      rintro e wq ⟨rfl, kk, rfl⟩
      have HS := Lib.hid (HS.out.step (HS.out.rr.drew kk) (grown_of_below (below_drewN (Below.refl _ w4) kk) _))
      clear HI
      obtain ⟨wq, hwq⟩ : ∃ y, w4.drewN kk = y := ⟨_, rfl⟩
      rw [hwq] at HS ⊢
      clear hwq
      have HM := Lib.hid (rdnumber_any w0 wq rb ao n c l (Lx.mark l (Lx.mark l s [91]) [58]) HS.out.rr)
      go_wp2_with fail
      (with_reducible refine HM.out.mono ?_)
      rintro e w5 ⟨rfl, HR2, HG2⟩
      have HS := Lib.hid (HS.out.step HR2.out HG2.out)
      clear HM HR2 HG2
      have g0 := cell_blk HS.out.out 0
      have g1 := cell_blk HS.out.out 1
      have g2 := cell_blk HS.out.out 2
      have g3 := cell_blk HS.out.out 3
      have k1 := blk_free HS.out.out 1
      have k3 := blk_free HS.out.out 3
      have k0 := blk_free HS.out.out 0
      have k2 := blk_free HS.out.out 2
      obtain ⟨w6, hw⟩ : ∃ y, (w5.setCell ⟨b + 1, 1, none⟩ (.int .i64 (Lx.number l (Lx.mark l (Lx.mark l s [91]) [58])).1)).setCell ⟨b + 1, 3, none⟩ (.bool true) = y := ⟨_, rfl⟩
      have HS := Lib.hid ((HS.out.set1 (Lx.number l (Lx.mark l (Lx.mark l s [91]) [58])).1).set3)
      rw [hw] at HS
      have HWX := Lib.hid hw
      clear hw
      go_upto_region 10 with fail
      rw [HWX.out]
      clear HWX
      clear g0 g1 g2 g3 k0 k1 k2 k3
      have HM := Lib.hid (rmrk_l w0 w6 rb ao n c l (Lx.number l (Lx.mark l (Lx.mark l s [91]) [58])).2 [93] HS.out.rr)
      go_wp2_with fail
      (with_reducible refine HM.out.mono ?_)
      rintro e w7 ⟨rfl, HR2, HG2⟩
      have HS := Lib.hid (HS.out.step HR2.out HG2.out)
      clear HM HR2 HG2
      have g0 := cell_blk HS.out.out 0
      have g1 := cell_blk HS.out.out 1
      have g2 := cell_blk HS.out.out 2
      have g3 := cell_blk HS.out.out 3
      have k1 := blk_free HS.out.out 1
      have k3 := blk_free HS.out.out 3
      have k0 := blk_free HS.out.out 0
      have k2 := blk_free HS.out.out 2
      have r0 := cell_blk HS.out.res 0
      have q0 := blk_free HS.out.res 0
      have r1 := cell_blk HS.out.res 1
      have q1 := blk_free HS.out.res 1
      have r2 := cell_blk HS.out.res 2
      have q2 := blk_free HS.out.res 2
      have r3 := cell_blk HS.out.res 3
      have q3 := blk_free HS.out.res 3
      have HF := Lib.hid HS.out.fin
      go_wp2_with fail
      obtain ⟨wF, hwF⟩ : ∃ y, ((((w7.setCell ⟨b, 0, none⟩ (.int .i64 0)).setCell ⟨b, 1, none⟩ (.int .i64 ((Lx.number l (Lx.mark l (Lx.mark l s [91]) [58])).1))).setCell ⟨b, 2, none⟩ (.bool false)).setCell ⟨b, 3, none⟩ (.bool true)) = y := ⟨_, rfl⟩
      rw [hwF] at HF ⊢
      clear hwF r0 r1 r2 r3
      have r0 := cell_blk HF.out.1 0
      have r1 := cell_blk HF.out.1 1
      have r2 := cell_blk HF.out.1 2
      have r3 := cell_blk HF.out.1 3
      exact bodyPost_ret (v := .agg #[.int .i64 (0), .int .i64 ((Lx.number l (Lx.mark l (Lx.mark l s [91]) [58])).1), .bool false, .bool true]) (by simp [results, Tryd.results40, go_sem, r0, r1, r2, r3]) rfl ⟨rfl, Lib.hid HF.out.2.1, Lib.hid HF.out.2.2⟩
  · have eA : Lx.endR l (Lx.mark l s [91]) [58] = (((Lx.number l (Lx.mark l s [91])).1, true), (Lx.number l (Lx.mark l s [91])).2) := if_neg A
    have hA := not_both A
    rw [eA]
    dsimp only
    clear eA A
    by_cases B : (Lx.mark l (Lx.number l (Lx.mark l s [91])).2 [58]).wrong = 0 ∧ Lx.isMk l (Lx.mark l (Lx.number l (Lx.mark l s [91])).2 [58]).at_ [93] = true
    · have eB : Lx.endR l (Lx.mark l (Lx.number l (Lx.mark l s [91])).2 [58]) [93] = ((0, false), Lx.mark l (Lx.number l (Lx.mark l s [91])).2 [58]) := if_pos B
      have hB := both_ B
      rw [eB]
      dsimp only
      clear eB B
      go_enter Tryd.func40, Tryd.ntmps40
      go_upto_region 2 with fail
      try rw [HBX.out]
      try rw [HWX.out]
      clear HWX HBX
      have HM := Lib.hid (rmrk_l w0 w1 rb ao n c l s [91] HS.out.rr)
      go_wp2_with fail
      (with_reducible refine HM.out.mono ?_)
      rintro e w2 ⟨rfl, HR2, HG2⟩
      have HS := Lib.hid (HS.out.step HR2.out HG2.out)
      clear HM HR2 HG2
      have HI := Lib.hid (ris_l w0 w2 rb ao n c l (Lx.mark l s [91]) [58] HS.out.rr)
      rw [hA] at HI
      go_wp2_with fail
      (with_reducible refine HI.out.mono ?_)
      rintro e w3 ⟨rfl, kk, rfl⟩
      have HS := Lib.hid (HS.out.step (HS.out.rr.drew kk) (grown_of_below (below_drewN (Below.refl _ w2) kk) _))
      clear HI
      obtain ⟨w3, hw3⟩ : ∃ y, w2.drewN kk = y := ⟨_, rfl⟩
      rw [hw3] at HS ⊢
      clear hw3
      have HM := Lib.hid (rdnumber_any w0 w3 rb ao n c l (Lx.mark l s [91]) HS.out.rr)
      go_wp2_with fail
      (with_reducible refine HM.out.mono ?_)
      rintro e w4 ⟨rfl, HR2, HG2⟩
      have HS := Lib.hid (HS.out.step HR2.out HG2.out)
      clear HM HR2 HG2
      have g0 := cell_blk HS.out.out 0
      have g1 := cell_blk HS.out.out 1
      have g2 := cell_blk HS.out.out 2
      have g3 := cell_blk HS.out.out 3
      have k1 := blk_free HS.out.out 1
      have k3 := blk_free HS.out.out 3
      have k0 := blk_free HS.out.out 0
      have k2 := blk_free HS.out.out 2
      obtain ⟨w5, hw⟩ : ∃ y, (w4.setCell ⟨b + 1, 0, none⟩ (.int .i64 (Lx.number l (Lx.mark l s [91])).1)).setCell ⟨b + 1, 2, none⟩ (.bool true) = y := ⟨_, rfl⟩
      have HS := Lib.hid ((HS.out.set0 (Lx.number l (Lx.mark l s [91])).1).set2)
      rw [hw] at HS
      have HWX := Lib.hid hw
      clear hw
      go_upto_region 6 with fail
      rw [HWX.out]
      clear HWX
      clear g0 g1 g2 g3 k0 k1 k2 k3
      have HM := Lib.hid (rmrk_l w0 w5 rb ao n c l (Lx.number l (Lx.mark l s [91])).2 [58] HS.out.rr)
      go_wp2_with fail
      (with_reducible refine HM.out.mono ?_)
      rintro e w6 ⟨rfl, HR2, HG2⟩
      have HS := Lib.hid (HS.out.step HR2.out HG2.out)
      clear HM HR2 HG2
      have HI := Lib.hid (ris_l w0 w6 rb ao n c l (Lx.mark l (Lx.number l (Lx.mark l s [91])).2 [58]) [93] HS.out.rr)
      rw [hB] at HI
      go_wp2_with fail
      (with_reducible refine HI.out.mono ?_)
      rintro e wq ⟨rfl, kk, rfl⟩
      have HS := Lib.hid (HS.out.step (HS.out.rr.drew kk) (grown_of_below (below_drewN (Below.refl _ w6) kk) _))
      clear HI
      obtain ⟨wq, hwq⟩ : ∃ y, w6.drewN kk = y := ⟨_, rfl⟩
      rw [hwq] at HS ⊢
      clear hwq
      have HM := Lib.hid (rmrk_l w0 wq rb ao n c l (Lx.mark l (Lx.number l (Lx.mark l s [91])).2 [58]) [93] HS.out.rr)
      go_wp2_with fail
      (with_reducible refine HM.out.mono ?_)
      rintro e w7 ⟨rfl, HR2, HG2⟩
      have HS := Lib.hid (HS.out.step HR2.out HG2.out)
      clear HM HR2 HG2
      have g0 := cell_blk HS.out.out 0
      have g1 := cell_blk HS.out.out 1
      have g2 := cell_blk HS.out.out 2
      have g3 := cell_blk HS.out.out 3
      have k1 := blk_free HS.out.out 1
      have k3 := blk_free HS.out.out 3
      have k0 := blk_free HS.out.out 0
      have k2 := blk_free HS.out.out 2
      have r0 := cell_blk HS.out.res 0
      have q0 := blk_free HS.out.res 0
      have r1 := cell_blk HS.out.res 1
      have q1 := blk_free HS.out.res 1
      have r2 := cell_blk HS.out.res 2
      have q2 := blk_free HS.out.res 2
      have r3 := cell_blk HS.out.res 3
      have q3 := blk_free HS.out.res 3
      have HF := Lib.hid HS.out.fin
      go_wp2_with fail
      obtain ⟨wF, hwF⟩ : ∃ y, ((((w7.setCell ⟨b, 0, none⟩ (.int .i64 (Lx.number l (Lx.mark l s [91])).1)).setCell ⟨b, 1, none⟩ (.int .i64 (0))).setCell ⟨b, 2, none⟩ (.bool true)).setCell ⟨b, 3, none⟩ (.bool false)) = y := ⟨_, rfl⟩
      rw [hwF] at HF ⊢
      clear hwF r0 r1 r2 r3
      have r0 := cell_blk HF.out.1 0
      have r1 := cell_blk HF.out.1 1
      have r2 := cell_blk HF.out.1 2
      have r3 := cell_blk HF.out.1 3
      exact bodyPost_ret (v := .agg #[.int .i64 ((Lx.number l (Lx.mark l s [91])).1), .int .i64 (0), .bool true, .bool false]) (by simp [results, Tryd.results40, go_sem, r0, r1, r2, r3]) rfl ⟨rfl, Lib.hid HF.out.2.1, Lib.hid HF.out.2.2⟩
    · have eB : Lx.endR l (Lx.mark l (Lx.number l (Lx.mark l s [91])).2 [58]) [93] = (((Lx.number l (Lx.mark l (Lx.number l (Lx.mark l s [91])).2 [58])).1, true), (Lx.number l (Lx.mark l (Lx.number l (Lx.mark l s [91])).2 [58])).2) := if_neg B
      have hB := not_both B
      rw [eB]
      dsimp only
      clear eB B
      go_enter Tryd.func40, Tryd.ntmps40
      go_upto_region 2 with fail
      try rw [HBX.out]
      try rw [HWX.out]
      clear HWX HBX
      have HM := Lib.hid (rmrk_l w0 w1 rb ao n c l s [91] HS.out.rr)
      go_wp2_with fail
      (with_reducible refine HM.out.mono ?_)
      rintro e w2 ⟨rfl, HR2, HG2⟩
      have HS := Lib.hid (HS.out.step HR2.out HG2.out)
      clear HM HR2 HG2
      have HI := Lib.hid (ris_l w0 w2 rb ao n c l (Lx.mark l s [91]) [58] HS.out.rr)
      rw [hA] at HI
      go_wp2_with fail
      (with_reducible refine HI.out.mono ?_)
      rintro e w3 ⟨rfl, kk, rfl⟩
      have HS := Lib.hid (HS.out.step (HS.out.rr.drew kk) (grown_of_below (below_drewN (Below.refl _ w2) kk) _))
      clear HI
      obtain ⟨w3, hw3⟩ : ∃ y, w2.drewN kk = y := ⟨_, rfl⟩
      rw [hw3] at HS ⊢
      clear hw3
      have HM := Lib.hid (rdnumber_any w0 w3 rb ao n c l (Lx.mark l s [91]) HS.out.rr)
      go_wp2_with fail
      (with_reducible refine HM.out.mono ?_)
      rintro e w4 ⟨rfl, HR2, HG2⟩
      have HS := Lib.hid (HS.out.step HR2.out HG2.out)
      clear HM HR2 HG2
      have g0 := cell_blk HS.out.out 0
      have g1 := cell_blk HS.out.out 1
      have g2 := cell_blk HS.out.out 2
      have g3 := cell_blk HS.out.out 3
      have k1 := blk_free HS.out.out 1
      have k3 := blk_free HS.out.out 3
      have k0 := blk_free HS.out.out 0
      have k2 := blk_free HS.out.out 2
      obtain ⟨w5, hw⟩ : ∃ y, (w4.setCell ⟨b + 1, 0, none⟩ (.int .i64 (Lx.number l (Lx.mark l s [91])).1)).setCell ⟨b + 1, 2, none⟩ (.bool true) = y := ⟨_, rfl⟩
      have HS := Lib.hid ((HS.out.set0 (Lx.number l (Lx.mark l s [91])).1).set2)
      rw [hw] at HS
      have HWX := Lib.hid hw
      clear hw
      go_upto_region 6 with fail
      rw [HWX.out]
      clear HWX
      clear g0 g1 g2 g3 k0 k1 k2 k3
      have HM := Lib.hid (rmrk_l w0 w5 rb ao n c l (Lx.number l (Lx.mark l s [91])).2 [58] HS.out.rr)
      go_wp2_with fail
      (with_reducible refine HM.out.mono ?_)
      rintro e w6 ⟨rfl, HR2, HG2⟩
      have HS := Lib.hid (HS.out.step HR2.out HG2.out)
      clear HM HR2 HG2
      have HI := Lib.hid (ris_l w0 w6 rb ao n c l (Lx.mark l (Lx.number l (Lx.mark l s [91])).2 [58]) [93] HS.out.rr)
      rw [hB] at HI
      go_wp2_with fail
      (with_reducible refine HI.out.mono ?_)
      rintro e wq ⟨rfl, kk, rfl⟩
      have HS := Lib.hid (HS.out.step (HS.out.rr.drew kk) (grown_of_below (below_drewN (Below.refl _ w6) kk) _))
      clear HI
      obtain ⟨wq, hwq⟩ : ∃ y, w6.drewN kk = y := ⟨_, rfl⟩
      rw [hwq] at HS ⊢
      clear hwq
      have HM := Lib.hid (rdnumber_any w0 wq rb ao n c l (Lx.mark l (Lx.number l (Lx.mark l s [91])).2 [58]) HS.out.rr)
      go_wp2_with fail
      (with_reducible refine HM.out.mono ?_)
      rintro e w7 ⟨rfl, HR2, HG2⟩
      have HS := Lib.hid (HS.out.step HR2.out HG2.out)
      clear HM HR2 HG2
      have g0 := cell_blk HS.out.out 0
      have g1 := cell_blk HS.out.out 1
      have g2 := cell_blk HS.out.out 2
      have g3 := cell_blk HS.out.out 3
      have k1 := blk_free HS.out.out 1
      have k3 := blk_free HS.out.out 3
      have k0 := blk_free HS.out.out 0
      have k2 := blk_free HS.out.out 2
      obtain ⟨w8, hw⟩ : ∃ y, (w7.setCell ⟨b + 1, 1, none⟩ (.int .i64 (Lx.number l (Lx.mark l (Lx.number l (Lx.mark l s [91])).2 [58])).1)).setCell ⟨b + 1, 3, none⟩ (.bool true) = y := ⟨_, rfl⟩
      have HS := Lib.hid ((HS.out.set1 (Lx.number l (Lx.mark l (Lx.number l (Lx.mark l s [91])).2 [58])).1).set3)
      rw [hw] at HS
      have HWX := Lib.hid hw
      clear hw
      go_upto_region 10 with fail
      rw [HWX.out]
      clear HWX
      clear g0 g1 g2 g3 k0 k1 k2 k3
      have HM := Lib.hid (rmrk_l w0 w8 rb ao n c l (Lx.number l (Lx.mark l (Lx.number l (Lx.mark l s [91])).2 [58])).2 [93] HS.out.rr)
      go_wp2_with fail
      (with_reducible refine HM.out.mono ?_)
      rintro e w9 ⟨rfl, HR2, HG2⟩
      have HS := Lib.hid (HS.out.step HR2.out HG2.out)
      clear HM HR2 HG2
      have g0 := cell_blk HS.out.out 0
      have g1 := cell_blk HS.out.out 1
      have g2 := cell_blk HS.out.out 2
      have g3 := cell_blk HS.out.out 3
      have k1 := blk_free HS.out.out 1
      have k3 := blk_free HS.out.out 3
      have k0 := blk_free HS.out.out 0
      have k2 := blk_free HS.out.out 2
      have r0 := cell_blk HS.out.res 0
      have q0 := blk_free HS.out.res 0
      have r1 := cell_blk HS.out.res 1
      have q1 := blk_free HS.out.res 1
      have r2 := cell_blk HS.out.res 2
      have q2 := blk_free HS.out.res 2
      have r3 := cell_blk HS.out.res 3
      have q3 := blk_free HS.out.res 3
      have HF := Lib.hid HS.out.fin
      go_wp2_with fail
      obtain ⟨wF, hwF⟩ : ∃ y, ((((w9.setCell ⟨b, 0, none⟩ (.int .i64 (Lx.number l (Lx.mark l s [91])).1)).setCell ⟨b, 1, none⟩ (.int .i64 ((Lx.number l (Lx.mark l (Lx.number l (Lx.mark l s [91])).2 [58])).1))).setCell ⟨b, 2, none⟩ (.bool true)).setCell ⟨b, 3, none⟩ (.bool true)) = y := ⟨_, rfl⟩
      rw [hwF] at HF ⊢
      clear hwF r0 r1 r2 r3
      have r0 := cell_blk HF.out.1 0
      have r1 := cell_blk HF.out.1 1
      have r2 := cell_blk HF.out.1 2
      have r3 := cell_blk HF.out.1 3
      exact bodyPost_ret (v := .agg #[.int .i64 ((Lx.number l (Lx.mark l s [91])).1), .int .i64 ((Lx.number l (Lx.mark l (Lx.number l (Lx.mark l s [91])).2 [58])).1), .bool true, .bool true]) (by simp [results, Tryd.results40, go_sem, r0, r1, r2, r3]) rfl ⟨rfl, Lib.hid HF.out.2.1, Lib.hid HF.out.2.2⟩

set_option maxRecDepth 20000 in
set_option maxHeartbeats 1000000 in
theorem rop_any (s : ByteArray) (w : World) :
    Calls Tryd.prog 10 #[.string s] w fun e w' => e = .returned (.tuple #[.int .u8 (Lx.opN s.data.toList : Int), .bool (decide (Lx.opN s.data.toList ≠ 0))]) ∧ Below w.heap.size w w' := by
  obtain ⟨R, hR⟩ : ∃ R, Lx.opN s.data.toList = R := ⟨_, rfl⟩
  rw [hR]
  have HR : Hid (Lx.opGo (Lx.opW.drop 0) (0 + 1) s.data.toList = R) := Lib.hid hR
  clear hR
  go_enter Tryd.func10, Tryd.ntmps10
  go_wp2_with fail
  (with_reducible refine (ops_any _).mono ?_)
  rintro e w1 ⟨b, rfl, HB, HC⟩
  go_upto_region 3 with fail
  go_loopw [5] (fun ii wr => ∃ j : Nat, j ≤ 12 ∧ ii = .int .i64 ((j : Int) + 1) ∧ w1 = wr ∧ Hid (Lx.opGo (Lx.opW.drop j) (j + 1) s.data.toList = R)) (fun ii _ => 14 - (intOf ii).toNat)
  case atStart => exact ⟨0, by omega, rfl, rfl, HR⟩
  case round =>
    clear HR
    obtain ⟨j, hj, rfl, rfl, HR⟩ := hrel
    have j0 : (0 : Int) ≤ (j : Int) := by omega
    have j9 : (j : Int) ≤ 12 := by omega
    by_cases jlt : j < 12
    · have j1 : (j : Int) + 1 < 13 := by omega
      have c1 : w1.cell? ⟨b, j + 1, none⟩ = some (.string ⟨(Lx.opW.getD j []).toArray⟩) := (cell_blk HC.out (j + 1)).trans (opC_get (j + 1) (by omega) (by omega))
      have hlen : Lx.opW.length = 12 := rfl
      have hd : Lx.opW.drop j = Lx.opW.getD j [] :: Lx.opW.drop (j + 1) := by
        rw [List.drop_eq_getElem_cons (by rw [hlen]; exact jlt), List.getD_eq_getElem?_getD, List.getElem?_eq_getElem (by rw [hlen]; exact jlt)]; rfl
      have HR2 := HR.out
      rw [hd] at HR2
      unfold Lx.opGo at HR2
      obtain ⟨sx, hsx⟩ : ∃ sx : ByteArray, ⟨(Lx.opW.getD j []).toArray⟩ = sx := ⟨_, rfl⟩
      rw [hsx] at c1
      by_cases q : sx = s
      · have e : Lx.opW.getD j [] = s.data.toList := by rw [← q, ← hsx]
        rw [if_pos e] at HR2
        clear HR hsx e hd
        subst q
        subst HR2
        go_wp2_with fail
        go_returns
        exact ⟨by show Ending.returned (.tuple #[.int .u8 ((j : Int) + 1), .bool true]) = Ending.returned (.tuple #[.int .u8 ((j + 1 : Nat) : Int), .bool (decide (j + 1 ≠ 0))]); simp, HB.out⟩
      · have e : ¬ Lx.opW.getD j [] = s.data.toList := fun e => q (by rw [← hsx, e])
        rw [if_neg e] at HR2
        have e2 : (sx.toList == s.toList) = false := by rw [beq_eq_false_iff_ne]; exact fun z => q ((nm_inj _ _).1 z)
        have HR2 := Lib.hid HR2
        clear HR hsx e hd q
        go_wp2_with fail
        go_roundw
        case rel => exact ⟨j + 1, by omega, by go_num, by first | rfl | trivial, HR2⟩
        case measure => simp [intOf]; omega
    · obtain rfl : j = 12 := by omega
      have HR2 := HR.out
      have e : Lx.opW.drop 12 = [] := rfl
      rw [e] at HR2
      have HR2 : 0 = R := HR2
      subst HR2
      clear HR e
      go_wp2_with fail
      go_returns
      exact ⟨rfl, HB.out⟩
end Go.Proofs.YtllhcpkpbipjlaaDoor
