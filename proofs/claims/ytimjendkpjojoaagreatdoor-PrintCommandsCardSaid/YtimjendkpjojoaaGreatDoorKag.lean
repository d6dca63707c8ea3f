/- M1, M2, M3 in one. -/
import Derived.Test.YtimjendkpjojoaaGreatDoorKaf
import Derived.Test.YtimjendkpjojoaaGreatDoorKd
import Derived.Test.YtimjendkpjojoaaGreatDoorKb
import Derived.BigQuiet
import Derived.BigRegion
import Derived.RegionTactic
import Derived.RegionCalls
import Derived.Laws.EntriesVeiled
import Derived.Laws.NewBlocks
import Derived.Laws.Pointers
import Derived.Deep.QuietTactic
import Derived.StillTailTactics
import Derived.Maps.AppendAt
import Derived.Handy
import Derived.Laws.AppendOwn
namespace Go.Proofs.YtimjendkpjojoaaGreatDoor
set_option linter.unusedVariables false
set_option linter.unusedSimpArgs false
open Go.ChangeShapes Go.WideShapes Go.ChangeAt Go.RowKit

theorem grown_of_below {w w' : World} (h : Below w.heap.size w w') (row : Option Nat) : w.grownBy w' row := ⟨h.os, h.tape, h.output, h.size, fun k hk _ => h.block k hk⟩
theorem grown_trans {a b c : World} {row : Option Nat} (h : a.grownBy b row) (k : b.grownBy c row) : a.grownBy c row :=
  ⟨k.os.trans h.os, k.tape.trans h.tape, k.output.trans h.output, Nat.le_trans h.size k.size, fun q hq hne => (k.block q (Nat.lt_of_lt_of_le hq h.size) hne).trans (h.block q hq hne)⟩
theorem mbelow_grown {B : Nat} {a w w' : World} {row : Option Nat} (h : Below B a w) (k : w.grownBy w' row) (hr : ∀ q, row = some q → B ≤ q) (hB : B ≤ w.heap.size) : Below B a w' :=
  ⟨k.os.trans h.os, k.tape.trans h.tape, k.output.trans h.output, Nat.le_trans h.size k.size, fun q hq => (k.block q (Nat.lt_of_lt_of_le hq hB) (fun e => by have := hr q e.symm; omega)).trans (h.block q hq)⟩
/-- A token as a value. -/
def tv (t : Lx.Tk) : Value := .agg #[.int .u8 t.1, .string ⟨t.2.1.toArray⟩, .int .i64 t.2.2]
/-- The reader in memory. -/
structure Rd (w0 W : World) (rb : Nat) (ao : Option Addr) (n c : Nat) (l : List Lx.Tk) (s : Lx.St) : Prop where
  bw : Below w0.heap.size w0 W
  lo : w0.heap.size ≤ rb
  box : W.heap[rb]? = some (.cells #[.slice ao n c, .int .i64 s.at_, .int .i64 s.parts, .int .i64 s.wrong] 64 (0, 0))
  tk : TkAt w0 ao n c l
  top : s.at_ ≤ n
theorem Rd.lt {w0 W : World} {rb : Nat} {ao : Option Addr} {n c : Nat} {l : List Lx.Tk} {s : Lx.St} (h : Rd w0 W rb ao n c l s) : rb < W.heap.size := (Array.getElem?_eq_some_iff.1 h.box).1
theorem Rd.grown {w0 W W' : World} {rb : Nat} {ao : Option Addr} {n c : Nat} {l : List Lx.Tk} {s : Lx.St} {row : Option Nat} (h : Rd w0 W rb ao n c l s) (k : W.grownBy W' row) (hr : ∀ q, row = some q → w0.heap.size ≤ q ∧ q ≠ rb) : Rd w0 W' rb ao n c l s :=
  ⟨mbelow_grown h.bw k (fun q e => (hr q e).1) h.bw.size, h.lo, (k.block rb h.lt (fun e => (hr rb e.symm).2 rfl)).trans h.box, h.tk, h.top⟩
theorem Rd.keep {w0 W W' : World} {rb : Nat} {ao : Option Addr} {n c : Nat} {l : List Lx.Tk} {s : Lx.St} (h : Rd w0 W rb ao n c l s) (k : Below W.heap.size W W') : Rd w0 W' rb ao n c l s :=
  h.grown (grown_of_below k none) (fun q e => by cases e)
theorem Rd.wrong {w0 W : World} {rb : Nat} {ao : Option Addr} {n c : Nat} {l : List Lx.Tk} {s : Lx.St} (h : Rd w0 W rb ao n c l s) (e : Int) : Rd w0 (W.setCell ⟨rb, 3, none⟩ (.int .i64 e)) rb ao n c l ⟨s.at_, s.parts, e⟩ :=
  ⟨mbelow_grown h.bw (grow_cell W _ _) (fun q e => by cases e; exact h.lo) h.bw.size, h.lo, by rw [set_block h.box]; rfl, h.tk, h.top⟩
theorem Rd.part {w0 W : World} {rb : Nat} {ao : Option Addr} {n c : Nat} {l : List Lx.Tk} {s : Lx.St} (h : Rd w0 W rb ao n c l s) (e : Nat) : Rd w0 (W.setCell ⟨rb, 2, none⟩ (.int .i64 e)) rb ao n c l ⟨s.at_, e, s.wrong⟩ :=
  ⟨mbelow_grown h.bw (grow_cell W _ _) (fun q e => by cases e; exact h.lo) h.bw.size, h.lo, by rw [set_block h.box]; rfl, h.tk, h.top⟩
theorem Rd.next {w0 W : World} {rb : Nat} {ao : Option Addr} {n c : Nat} {l : List Lx.Tk} {s : Lx.St} (h : Rd w0 W rb ao n c l s) (e : Nat) (he : e ≤ n) : Rd w0 (W.setCell ⟨rb, 1, none⟩ (.int .i64 e)) rb ao n c l ⟨e, s.parts, s.wrong⟩ :=
  ⟨mbelow_grown h.bw (grow_cell W _ _) (fun q e => by cases e; exact h.lo) h.bw.size, h.lo, by rw [set_block h.box]; rfl, h.tk, he⟩
theorem Rd.cells {w0 W : World} {rb : Nat} {ao : Option Addr} {n c : Nat} {l : List Lx.Tk} {s : Lx.St} (h : Rd w0 W rb ao n c l s) : W.cell? ⟨rb, 0, none⟩ = some (.slice ao n c) ∧ W.cell? ⟨rb, 1, none⟩ = some (.int .i64 s.at_) ∧ W.cell? ⟨rb, 2, none⟩ = some (.int .i64 s.parts) ∧ W.cell? ⟨rb, 3, none⟩ = some (.int .i64 s.wrong) :=
  ⟨cell_blk h.box 0, cell_blk h.box 1, cell_blk h.box 2, cell_blk h.box 3⟩
theorem Rd.tok {w0 W : World} {rb : Nat} {ao : Option Addr} {n c : Nat} {l : List Lx.Tk} {s : Lx.St} (h : Rd w0 W rb ao n c l s) (i : Nat) (hi : i < n) : ∃ b p, ao = some ⟨b, p, none⟩ ∧ W.cell? ⟨b, p + i * 3, none⟩ = some (.int .u8 (Lx.tkAt l i).1) ∧ W.cell? ⟨b, p + i * 3 + 1, none⟩ = some (.string ⟨(Lx.tkAt l i).2.1.toArray⟩) ∧ W.cell? ⟨b, p + i * 3 + 2, none⟩ = some (.int .i64 (Lx.tkAt l i).2.2) := by
  obtain ⟨b, p, e, hc⟩ := h.tk.here (by omega)
  have hl : i < l.length := by rw [h.tk.len]; exact hi
  have e1 : Lx.tkAt l i = l[i] := by unfold Lx.tkAt; rw [List.getD_eq_getElem?_getD, List.getElem?_eq_getElem hl]; rfl
  rw [e1]
  exact ⟨b, p, e, cell_keep (hc i hl).1 h.bw, cell_keep (hc i hl).2.1 h.bw, cell_keep (hc i hl).2.2 h.bw⟩
theorem Rd.end_ {w0 W : World} {rb : Nat} {ao : Option Addr} {n c : Nat} {l : List Lx.Tk} {s : Lx.St} (h : Rd w0 W rb ao n c l s) (e : n ≤ s.at_) : Lx.tkAt l s.at_ = (0, [], 0) := by
  unfold Lx.tkAt; rw [List.getD_eq_getElem?_getD, List.getElem?_eq_none (by rw [h.tk.len]; exact e)]; rfl
theorem Rd.nlt {w0 W : World} {rb : Nat} {ao : Option Addr} {n c : Nat} {l : List Lx.Tk} {s : Lx.St} (h : Rd w0 W rb ao n c l s) : n ≤ 9223372036854775807 := by have := h.tk.le; have := h.tk.top; omega
theorem Rd.drew {w0 W : World} {rb : Nat} {ao : Option Addr} {n c : Nat} {l : List Lx.Tk} {s : Lx.St} (h : Rd w0 W rb ao n c l s) (k : Nat) : Rd w0 (W.drewN k) rb ao n c l s := h.keep (below_drewN (Below.refl _ W) k)
set_option maxHeartbeats 1000000 in
theorem kind_any (w0 W : World) (rb : Nat) (ao : Option Addr) (n c : Nat) (l : List Lx.Tk) (s : Lx.St) (h : Rd w0 W rb ao n c l s) :
    Calls Tryz.prog 52 #[.pointer (some ⟨rb, 0, none⟩)] W fun e w' => e = .returned (.int .u8 (Lx.tkAt l s.at_).1) ∧ ∃ m, w' = W.drewN m := by
  obtain ⟨c0, c1, _, _⟩ := h.cells
  have n1 := h.nlt
  have a1 := h.top
  have HE := Lib.hid h.end_
  have HT := Lib.hid (h.tok s.at_)
  obtain ⟨a, ha⟩ : ∃ a, s.at_ = a := ⟨_, rfl⟩
  rw [ha] at c1 HE HT a1 ⊢
  clear h ha
  by_cases q : n ≤ a
  · have e := HE.out q
    rw [e]
    obtain rfl : a = n := by omega
    clear e HE HT q
    go_enter Tryz.func52, Tryz.ntmps52
    go_wp2
    go_quiet (fail)
    go_wp2
    go_returns
    exact ⟨rfl, _, rfl⟩
  · have q1 : a < n := by omega
    obtain ⟨b, p, rfl, t0, t1, t2⟩ := HT.out q1
    obtain ⟨t, ht⟩ : ∃ t, Lx.tkAt l a = t := ⟨_, rfl⟩
    rw [ht] at t0 ⊢
    have q2 : (a : Int) < n := by omega
    have q3 : decide ((n : Int) ≤ (a : Int)) = false := by simp; omega
    clear HE HT q ht t1 t2
    go_enter Tryz.func52, Tryz.ntmps52
    go_wp2
    go_quiet (fail)
    go_wp2
    go_quiet (fail)
    go_wp2
    go_returns
    exact ⟨rfl, by first | exact ⟨_, rfl⟩ | exact ⟨_, drewN_drewN _ _ _⟩⟩

set_option maxHeartbeats 1000000 in
theorem isMark_any (w0 W : World) (rb : Nat) (ao : Option Addr) (n c : Nat) (l : List Lx.Tk) (s : Lx.St) (m : List UInt8) (h : Rd w0 W rb ao n c l s) (r : Bool) (hr : r = Lx.isMk l s.at_ m) :
    Calls Tryz.prog 54 #[.pointer (some ⟨rb, 0, none⟩), .string ⟨m.toArray⟩] W fun e w' => e = .returned (.bool r) ∧ ∃ m, w' = W.drewN m := by
  obtain ⟨c0, c1, _, _⟩ := h.cells
  have n1 := h.nlt
  have a1 := h.top
  have HK := Lib.hid (fun j => kind_any w0 (W.drewN j) rb ao n c l s (h.drew j))
  by_cases k : (Lx.tkAt l s.at_).1 = 4
  · have q1 : s.at_ < n := by have := Lx.tkAt_lt (l := l) (i := s.at_) (by rw [k]; decide); rw [h.tk.len] at this; exact this
    have HT := Lib.hid (h.tok s.at_ q1)
    have HR : Hid (r = ((⟨(Lx.tkAt l s.at_).2.1.toArray⟩ : ByteArray).toList == (⟨m.toArray⟩ : ByteArray).toList)) := Lib.hid (by
      rw [hr]; unfold Lx.isMk; rw [k, ByteArray.toList_eq, ByteArray.toList_eq]; simp; exact (by cases hz : decide ((Lx.tkAt l s.at_).2.1 = m) with | true => simp at hz; simp [hz] | false => simp at hz; simp [hz]))
    rw [k] at HK
    obtain ⟨a, ha⟩ : ∃ a, s.at_ = a := ⟨_, rfl⟩
    rw [ha] at c1 HT a1 q1 HR
    clear h ha hr k
    obtain ⟨b, p, rfl, t0, t1, t2⟩ := HT.out
    obtain ⟨x, hx⟩ : ∃ x : ByteArray, ⟨(Lx.tkAt l a).2.1.toArray⟩ = x := ⟨_, rfl⟩
    obtain ⟨y, hy⟩ : ∃ y : ByteArray, ⟨m.toArray⟩ = y := ⟨_, rfl⟩
    rw [hx] at t1 HR
    rw [hy] at HR ⊢
    have q2 : (a : Int) < n := by omega
    clear HT t0 t2 hx hy
    obtain rfl := HR.out
    clear HR
    go_enter Tryz.func54, Tryz.ntmps54
    go_wp2
    go_quiet ((go_at_call 52; with_reducible exact Calls.quiet_of (HK.out _)))
    go_wp2
    go_returns
    exact ⟨rfl, by first | exact ⟨_, rfl⟩ | exact ⟨_, drewN_drewN _ _ _⟩⟩
  · have HR : Hid (r = false) := Lib.hid (by rw [hr]; unfold Lx.isMk; simp [k])
    obtain ⟨t, ht⟩ : ∃ t, Lx.tkAt l s.at_ = t := ⟨_, rfl⟩
    rw [ht] at k HK
    have k2 : (t.1 == 4) = false := by simpa using k
    obtain ⟨y, hy⟩ : ∃ y : ByteArray, ⟨m.toArray⟩ = y := ⟨_, rfl⟩
    obtain ⟨u, hu⟩ : ∃ u, t.1 = u := ⟨_, rfl⟩
    rw [hu] at k2 HK
    rw [hy]
    obtain rfl := HR.out
    clear h hr k hy c0 c1 hu ht HR
    go_enter Tryz.func54, Tryz.ntmps54
    go_wp2
    go_quiet ((go_at_call 52; with_reducible exact Calls.quiet_of (HK.out _)))
    go_wp2
    go_returns
    exact ⟨rfl, by first | exact ⟨_, rfl⟩ | exact ⟨_, drewN_drewN _ _ _⟩⟩

theorem isNumber_2 (w0 W : World) (rb : Nat) (ao : Option Addr) (n c : Nat) (l : List Lx.Tk) (s : Lx.St) (h : Rd w0 W rb ao n c l s) (k : (Lx.tkAt l s.at_).1 = 2) :
    Calls Tryz.prog 62 #[.pointer (some ⟨rb, 0, none⟩)] W fun e w' => e = .returned (.bool true) ∧ ∃ m, w' = W.drewN m := by
  have HK := Lib.hid (kind_any w0 W rb ao n c l s h)
  rw [k] at HK
  clear h k
  go_enter Tryz.func62, Tryz.ntmps62
  go_wp2_with fail
  (with_reducible refine HK.out.mono ?_)
  rintro e w' ⟨rfl, m, rfl⟩
  go_wp2
  go_returns
  exact ⟨rfl, m, rfl⟩
theorem isNumber_3 (w0 W : World) (rb : Nat) (ao : Option Addr) (n c : Nat) (l : List Lx.Tk) (s : Lx.St) (h : Rd w0 W rb ao n c l s) (k : (Lx.tkAt l s.at_).1 = 3) :
    Calls Tryz.prog 62 #[.pointer (some ⟨rb, 0, none⟩)] W fun e w' => e = .returned (.bool true) ∧ ∃ m, w' = W.drewN m := by
  have HK := Lib.hid (fun j => kind_any w0 (W.drewN j) rb ao n c l s (h.drew j))
  have HK0 := Lib.hid (kind_any w0 W rb ao n c l s h)
  rw [k] at HK HK0
  clear k
  clear h
  go_enter Tryz.func62, Tryz.ntmps62
  go_wp2_with fail
  (with_reducible refine HK0.out.mono ?_)
  rintro e w' ⟨rfl, m, rfl⟩
  go_wp2_with fail
  (with_reducible refine (HK.out _).mono ?_)
  rintro e w' ⟨rfl, m', rfl⟩
  go_wp2
  go_returns
  exact ⟨rfl, by first | exact ⟨_, rfl⟩ | exact ⟨_, drewN_drewN _ _ _⟩⟩
theorem isNumber_0 (w0 W : World) (rb : Nat) (ao : Option Addr) (n c : Nat) (l : List Lx.Tk) (s : Lx.St) (h : Rd w0 W rb ao n c l s) (k : ¬ (Lx.tkAt l s.at_).1 = 2) (k3 : ¬ (Lx.tkAt l s.at_).1 = 3) :
    Calls Tryz.prog 62 #[.pointer (some ⟨rb, 0, none⟩)] W fun e w' => e = .returned (.bool false) ∧ ∃ m, w' = W.drewN m := by
  have HK := Lib.hid (fun j => kind_any w0 (W.drewN j) rb ao n c l s (h.drew j))
  have HK0 := Lib.hid (kind_any w0 W rb ao n c l s h)
  obtain ⟨u, hu⟩ : ∃ u, (Lx.tkAt l s.at_).1 = u := ⟨_, rfl⟩
  rw [hu] at k k3 HK HK0
  have k2 : (u == 2) = false := by simpa using k
  have k4 : (u == 3) = false := by simpa using k3
  clear k k3 hu
  clear h
  go_enter Tryz.func62, Tryz.ntmps62
  go_wp2_with fail
  (with_reducible refine HK0.out.mono ?_)
  rintro e w' ⟨rfl, m, rfl⟩
  go_wp2_with fail
  (with_reducible refine (HK.out _).mono ?_)
  rintro e w' ⟨rfl, m', rfl⟩
  go_wp2
  go_returns
  exact ⟨rfl, by first | exact ⟨_, rfl⟩ | exact ⟨_, drewN_drewN _ _ _⟩⟩
theorem isNumber_any (w0 W : World) (rb : Nat) (ao : Option Addr) (n c : Nat) (l : List Lx.Tk) (s : Lx.St) (h : Rd w0 W rb ao n c l s) :
    Calls Tryz.prog 62 #[.pointer (some ⟨rb, 0, none⟩)] W fun e w' => e = .returned (.bool (Lx.isNu l s.at_)) ∧ ∃ m, w' = W.drewN m := by
  by_cases k : (Lx.tkAt l s.at_).1 = 2
  · rw [show Lx.isNu l s.at_ = true by unfold Lx.isNu; simp [k]]; exact isNumber_2 w0 W rb ao n c l s h k
  · by_cases k3 : (Lx.tkAt l s.at_).1 = 3
    · rw [show Lx.isNu l s.at_ = true by unfold Lx.isNu; simp [k3]]; exact isNumber_3 w0 W rb ao n c l s h k3
    · rw [show Lx.isNu l s.at_ = false by unfold Lx.isNu; simp [k, k3]]; exact isNumber_0 w0 W rb ao n c l s h k k3

theorem grown_new {a b c : World} {g : Nat} {row : Option Nat} (h : a.grownBy b row) (k : b.grownBy c (some g)) (hg : a.heap.size ≤ g) : a.grownBy c row :=
  ⟨k.os.trans h.os, k.tape.trans h.tape, k.output.trans h.output, Nat.le_trans h.size k.size, fun q hq hne => (k.block q (Nat.lt_of_lt_of_le hq h.size) (fun e => by cases e; omega)).trans (h.block q hq hne)⟩
/-- Three cells written. -/
def set3 (W : World) (g : Nat) (y0 y1 y2 : Value) : World := ((W.setCell ⟨g, 0, none⟩ y0).setCell ⟨g, 1, none⟩ y1).setCell ⟨g, 2, none⟩ y2
theorem set3_on {W : World} {g : Nat} {x0 x1 x2 : Value} {t : TypeId} (h : W.heap[g]? = some (.cells #[x0, x1, x2] t (0, 0))) (y0 y1 y2 : Value) : (set3 W g y0 y1 y2).heap[g]? = some (.cells #[y0, y1, y2] t (0, 0)) := by
  unfold set3; rw [set_block (set_block (set_block h _ _) _ _) _ _]; rfl
theorem set3_grown (W : World) (g : Nat) (y0 y1 y2 : Value) : W.grownBy (set3 W g y0 y1 y2) (some g) := grown_trans (grown_trans (grow_cell W ⟨g, 0, none⟩ y0) (grow_cell _ ⟨g, 1, none⟩ y1)) (grow_cell _ ⟨g, 2, none⟩ y2)
theorem set3_below {B : Nat} {a W : World} {g : Nat} (h : Below B a W) (hg : B ≤ g) (y0 y1 y2 : Value) : Below B a (set3 W g y0 y1 y2) := by
  unfold set3
  exact ((h.setCell (p := ⟨g, 0, none⟩) hg y0).setCell (p := ⟨g, 1, none⟩) hg y1).setCell (p := ⟨g, 2, none⟩) hg y2
set_option maxHeartbeats 1000000 in
theorem take_bad (w0 W : World) (rb : Nat) (ao : Option Addr) (n c : Nat) (l : List Lx.Tk) (s : Lx.St) (b : Bool) (h : Rd w0 W rb ao n c l s) (k : s.wrong ≠ 0) :
    Calls Tryz.prog 61 #[.pointer (some ⟨rb, 0, none⟩), .bool b] W fun e w' => e = .returned (tv (0, [], 0)) ∧ Hid (Rd w0 w' rb ao n c l s) ∧ Hid (W.grownBy w' (some rb)) := by
  obtain ⟨c0, c1, c2, c3⟩ := h.cells
  obtain ⟨b_, hb⟩ : ∃ z, W.heap.size = z := ⟨_, rfl⟩
  obtain ⟨w1, hw1⟩ : ∃ z, W.alloc (.cells #[.int .u8 0, .string ⟨#[]⟩, .int .i64 0] 60) = z := ⟨_, rfl⟩
  have KA : Hid (Below W.heap.size W w1) := Lib.hid (by rw [← hw1]; exact (Below.refl _ W).alloc (Nat.le_refl _) _)
  have XB : Hid (w1.heap[b_]? = some (.cells #[.int .u8 0, .string ⟨#[]⟩, .int .i64 0] 60 (0, 0))) := Lib.hid (by rw [← hw1, ← hb, al_new])
  have HR := Lib.hid (h.keep KA.out)
  have HL : Hid (W.heap.size = b_) := Lib.hid hb
  have k2 : (s.wrong == 0) = false := by simpa using k
  have k3 : (s.wrong != 0) = true := by simpa using k
  have c3 := HR.out.cells.2.2.2
  have HNE : Hid (w0.heap.size ≤ b_ ∧ b_ ≠ rb) := Lib.hid ⟨by have := h.bw.size; omega, by have := h.lt; omega⟩
  obtain ⟨x, hx⟩ : ∃ x, s.wrong = x := ⟨_, rfl⟩
  rw [hx] at c3 k2 k3
  clear h k hx c0 c1 c2
  go_enter Tryz.func61, Tryz.ntmps61
  go_upto_region 1 with fail
  clear hw1 hb
  have d0 := cell_blk XB.out 0
  have d1 := cell_blk XB.out 1
  have d2 := cell_blk XB.out 2
  have f0 := blk_free XB.out 0
  have f1 := blk_free XB.out 1
  have f2 := blk_free XB.out 2
  go_wp2
  obtain ⟨wf, hwf⟩ : ∃ z, set3 w1 b_ (.int .u8 0) (.string ⟨#[]⟩) (.int .i64 0) = z := ⟨_, rfl⟩
  have hwf' := hwf
  unfold set3 at hwf'
  rw [hwf']
  have XF := set3_on XB.out (.int .u8 0) (.string ⟨#[]⟩) (.int .i64 0)
  rw [hwf] at XF
  have r0 := cell_blk XF 0
  have r1 := cell_blk XF 1
  have r2 := cell_blk XF 2
  refine bodyPost_ret (v := tv (0, [], 0)) (by unfold tv; simp [results, Tryz.results61, go_sem, r0, r1, r2]) rfl ⟨rfl, Lib.hid ?_, Lib.hid ?_⟩
  · have g := set3_grown w1 b_ (.int .u8 0) (.string ⟨#[]⟩) (.int .i64 0)
    rw [hwf] at g
    exact HR.out.grown g (fun q e => by cases e; exact HNE.out)
  · have g := set3_below KA.out (Nat.le_of_eq HL.out) (.int .u8 0) (.string ⟨#[]⟩) (.int .i64 0)
    rw [hwf] at g
    exact grown_of_below g _
set_option maxHeartbeats 1000000 in
theorem take_no (w0 W : World) (rb : Nat) (ao : Option Addr) (n c : Nat) (l : List Lx.Tk) (s : Lx.St) (h : Rd w0 W rb ao n c l s) (k : s.wrong = 0) :
    Calls Tryz.prog 61 #[.pointer (some ⟨rb, 0, none⟩), .bool false] W fun e w' => e = .returned (tv (0, [], 0)) ∧ Hid (Rd w0 w' rb ao n c l ⟨s.at_, s.parts, 110⟩) ∧ Hid (W.grownBy w' (some rb)) := by
  obtain ⟨c0, c1, c2, c3⟩ := h.cells
  obtain ⟨b_, hb⟩ : ∃ z, W.heap.size = z := ⟨_, rfl⟩
  obtain ⟨w1, hw1⟩ : ∃ z, W.alloc (.cells #[.int .u8 0, .string ⟨#[]⟩, .int .i64 0] 60) = z := ⟨_, rfl⟩
  have KA : Hid (Below W.heap.size W w1) := Lib.hid (by rw [← hw1]; exact (Below.refl _ W).alloc (Nat.le_refl _) _)
  have XB : Hid (w1.heap[b_]? = some (.cells #[.int .u8 0, .string ⟨#[]⟩, .int .i64 0] 60 (0, 0))) := Lib.hid (by rw [← hw1, ← hb, al_new])
  have HR := Lib.hid (h.keep KA.out)
  have HL : Hid (W.heap.size = b_) := Lib.hid hb
  have HNE : Hid (w0.heap.size ≤ b_ ∧ b_ ≠ rb) := Lib.hid ⟨by have := h.bw.size; omega, by have := h.lt; omega⟩
  have c3 := HR.out.cells.2.2.2
  have c4 := blk_free HR.out.box 3
  rw [k] at c3
  obtain ⟨w2, hw2⟩ : ∃ z, w1.setCell ⟨rb, 3, none⟩ (.int .i64 110) = z := ⟨_, rfl⟩
  have HR2 : Hid (Rd w0 w2 rb ao n c l ⟨s.at_, s.parts, 110⟩) := Lib.hid (by rw [← hw2]; exact HR.out.wrong 110)
  have XB2 : Hid (w2.heap[b_]? = some (.cells #[.int .u8 0, .string ⟨#[]⟩, .int .i64 0] 60 (0, 0))) := Lib.hid (by rw [← hw2]; exact ((grow_cell w1 ⟨rb, 3, none⟩ (.int .i64 110)).block b_ (Array.getElem?_eq_some_iff.1 XB.out).1 (fun e => HNE.out.2 (Option.some.inj e))).trans XB.out)
  have KG : Hid (W.grownBy w2 (some rb)) := Lib.hid (by rw [← hw2]; exact grown_trans (grown_of_below KA.out _) (grow_cell _ _ _))
  clear h k c0 c1 c2
  go_enter Tryz.func61, Tryz.ntmps61
  go_upto_region 1 with fail
  clear hw1 hb
  go_upto_region 3 with fail
  clear c3 c4 hw2
  have c3 := HR2.out.cells.2.2.2
  have d0 := cell_blk XB2.out 0
  have d1 := cell_blk XB2.out 1
  have d2 := cell_blk XB2.out 2
  have f0 := blk_free XB2.out 0
  have f1 := blk_free XB2.out 1
  have f2 := blk_free XB2.out 2
  go_wp2
  obtain ⟨wf, hwf⟩ : ∃ z, set3 w2 b_ (.int .u8 0) (.string ⟨#[]⟩) (.int .i64 0) = z := ⟨_, rfl⟩
  have hwf' := hwf
  unfold set3 at hwf'
  rw [hwf']
  have XF := set3_on XB2.out (.int .u8 0) (.string ⟨#[]⟩) (.int .i64 0)
  rw [hwf] at XF
  have r0 := cell_blk XF 0
  have r1 := cell_blk XF 1
  have r2 := cell_blk XF 2
  have g := set3_grown w2 b_ (.int .u8 0) (.string ⟨#[]⟩) (.int .i64 0)
  rw [hwf] at g
  refine bodyPost_ret (v := tv (0, [], 0)) (by unfold tv; simp [results, Tryz.results61, go_sem, r0, r1, r2]) rfl ⟨rfl, Lib.hid ?_, Lib.hid ?_⟩
  · exact HR2.out.grown g (fun q e => by cases e; exact HNE.out)
  · exact grown_new KG.out g (Nat.le_of_eq HL.out)
set_option maxHeartbeats 1000000 in
theorem take_yes (w0 W : World) (rb : Nat) (ao : Option Addr) (n c : Nat) (l : List Lx.Tk) (s : Lx.St) (h : Rd w0 W rb ao n c l s) (k : s.wrong = 0) (hi : s.at_ < n) :
    Calls Tryz.prog 61 #[.pointer (some ⟨rb, 0, none⟩), .bool true] W fun e w' => e = .returned (tv (Lx.tkAt l s.at_)) ∧ Hid (Rd w0 w' rb ao n c l ⟨s.at_ + 1, s.parts, s.wrong⟩) ∧ Hid (W.grownBy w' (some rb)) := by
  obtain ⟨c0, c1, c2, c3⟩ := h.cells
  obtain ⟨b_, hb⟩ : ∃ z, W.heap.size = z := ⟨_, rfl⟩
  obtain ⟨w1, hw1⟩ : ∃ z, W.alloc (.cells #[.int .u8 0, .string ⟨#[]⟩, .int .i64 0] 60) = z := ⟨_, rfl⟩
  have KA : Hid (Below W.heap.size W w1) := Lib.hid (by rw [← hw1]; exact (Below.refl _ W).alloc (Nat.le_refl _) _)
  have XB : Hid (w1.heap[b_]? = some (.cells #[.int .u8 0, .string ⟨#[]⟩, .int .i64 0] 60 (0, 0))) := Lib.hid (by rw [← hw1, ← hb, al_new])
  have HR := Lib.hid (h.keep KA.out)
  have HL : Hid (W.heap.size = b_) := Lib.hid hb
  have HNE : Hid (w0.heap.size ≤ b_ ∧ b_ ≠ rb) := Lib.hid ⟨by have := h.bw.size; omega, by have := h.lt; omega⟩
  have n1 := h.nlt
  have c3 := HR.out.cells.2.2.2
  have c1 := HR.out.cells.2.1
  have c4 := blk_free HR.out.box 1
  rw [k] at c3
  obtain ⟨a, ha⟩ : ∃ a, s.at_ = a := ⟨_, rfl⟩
  rw [ha] at c1 hi ⊢
  have i1 : (a : Int) < n := by omega
  obtain ⟨w2, hw2⟩ : ∃ z, w1.setCell ⟨rb, 1, none⟩ (.int .i64 ((a : Int) + 1)) = z := ⟨_, rfl⟩
  have HR2 : Hid (Rd w0 w2 rb ao n c l ⟨a + 1, s.parts, s.wrong⟩) := Lib.hid (by rw [← hw2]; exact HR.out.next (a + 1) hi)
  have XB2 : Hid (w2.heap[b_]? = some (.cells #[.int .u8 0, .string ⟨#[]⟩, .int .i64 0] 60 (0, 0))) := Lib.hid (by rw [← hw2]; exact ((grow_cell w1 ⟨rb, 1, none⟩ (.int .i64 ((a : Int) + 1))).block b_ (Array.getElem?_eq_some_iff.1 XB.out).1 (fun e => HNE.out.2 (Option.some.inj e))).trans XB.out)
  have KG : Hid (W.grownBy w2 (some rb)) := Lib.hid (by rw [← hw2]; exact grown_trans (grown_of_below KA.out _) (grow_cell _ _ _))
  obtain ⟨p, q, rfl, t0, t1, t2⟩ := HR2.out.tok a hi
  obtain ⟨T, hT⟩ : ∃ T, Lx.tkAt l a = T := ⟨_, rfl⟩
  rw [hT] at t0 t1 t2 ⊢
  have HT := Lib.hid (And.intro t0 (And.intro t1 t2))
  clear h k c0 c2 ha t0 t1 t2 hT
  go_enter Tryz.func61, Tryz.ntmps61
  go_upto_region 1 with fail
  clear hw1 hb
  go_upto_region 6 with fail
  clear c3 c4 hw2 c1
  obtain ⟨t0, t1, t2⟩ := HT.out
  have c0 := HR2.out.cells.1
  have c1 := HR2.out.cells.2.1
  have c1 : w2.cell? ⟨rb, 1, none⟩ = some (.int .i64 ((a : Int) + 1)) := c1
  have d0 := cell_blk XB2.out 0
  have d1 := cell_blk XB2.out 1
  have d2 := cell_blk XB2.out 2
  have f0 := blk_free XB2.out 0
  have f1 := blk_free XB2.out 1
  have f2 := blk_free XB2.out 2
  have e1 : IntKind.i64.wrap ((a : Int) + 1 - 1) = (a : Int) := by rw [Int.add_sub_cancel]; exact IntWalk.i64_in _ (by omega)
  go_region
  go_wp2
  obtain ⟨wf, hwf⟩ : ∃ z, set3 w2 b_ (.int .u8 T.1) (.string ⟨T.2.1.toArray⟩) (.int .i64 T.2.2) = z := ⟨_, rfl⟩
  have hwf' := hwf
  unfold set3 at hwf'
  rw [hwf']
  have XF := set3_on XB2.out (.int .u8 T.1) (.string ⟨T.2.1.toArray⟩) (.int .i64 T.2.2)
  have g := set3_grown w2 b_ (.int .u8 T.1) (.string ⟨T.2.1.toArray⟩) (.int .i64 T.2.2)
  rw [hwf] at g XF
  have g : w2.grownBy wf.drew (some b_) := ⟨g.os, g.tape, g.output, g.size, g.block⟩
  have r0 := cell_blk XF 0
  have r1 := cell_blk XF 1
  have r2 := cell_blk XF 2
  refine bodyPost_ret (v := tv T) (by unfold tv; simp [results, Tryz.results61, go_sem, r0, r1, r2]) rfl ⟨rfl, Lib.hid ?_, Lib.hid ?_⟩
  · exact HR2.out.grown g (fun q e => by cases e; exact HNE.out)
  · exact grown_new KG.out g (Nat.le_of_eq HL.out)
theorem take_any (w0 W : World) (rb : Nat) (ao : Option Addr) (n c : Nat) (l : List Lx.Tk) (s : Lx.St) (b : Bool) (h : Rd w0 W rb ao n c l s) (hb : b = true → s.at_ < n) :
    Calls Tryz.prog 61 #[.pointer (some ⟨rb, 0, none⟩), .bool b] W fun e w' => e = .returned (tv (Lx.take l s b).1) ∧ Hid (Rd w0 w' rb ao n c l (Lx.take l s b).2) ∧ Hid (W.grownBy w' (some rb)) := by
  by_cases k : s.wrong = 0
  · cases b with
    | true => rw [show Lx.take l s true = (Lx.tkAt l s.at_, ⟨s.at_ + 1, s.parts, s.wrong⟩) by unfold Lx.take; rw [if_pos k, if_pos rfl]]; exact take_yes w0 W rb ao n c l s h k (hb rfl)
    | false => rw [show Lx.take l s false = ((0, [], 0), ⟨s.at_, s.parts, 110⟩) by unfold Lx.take; rw [if_pos k, if_neg (by decide)]]; exact take_no w0 W rb ao n c l s h k
  · rw [show Lx.take l s b = ((0, [], 0), s) by unfold Lx.take; rw [if_neg k]]; exact take_bad w0 W rb ao n c l s b h k

theorem Rd.of_grown {w0 W W' : World} {rb : Nat} {ao : Option Addr} {n c : Nat} {l : List Lx.Tk} {s : Lx.St} (h : Rd w0 W rb ao n c l s) : w0.heap.size ≤ W.heap.size := h.bw.size
theorem mark_any (w0 W : World) (rb : Nat) (ao : Option Addr) (n c : Nat) (l : List Lx.Tk) (s : Lx.St) (m : List UInt8) (h : Rd w0 W rb ao n c l s) :
    Calls Tryz.prog 40 #[.pointer (some ⟨rb, 0, none⟩), .string ⟨m.toArray⟩] W fun e w' => e = .returned (.tuple #[]) ∧ Hid (Rd w0 w' rb ao n c l (Lx.mark l s m)) ∧ Hid (W.grownBy w' (some rb)) := by
  have HK := Lib.hid (isMark_any w0 W rb ao n c l s m h _ rfl)
  have HT := Lib.hid (fun j => take_any w0 (W.drewN j) rb ao n c l s (Lx.isMk l s.at_ m) (h.drew j) (fun q => by have := Lx.isMk_lt q; rw [h.tk.len] at this; exact this))
  unfold Lx.mark
  obtain ⟨S, hS⟩ : ∃ S, Lx.take l s (Lx.isMk l s.at_ m) = S := ⟨_, rfl⟩
  rw [hS] at HT ⊢
  obtain ⟨b, hb⟩ : ∃ b, Lx.isMk l s.at_ m = b := ⟨_, rfl⟩
  rw [hb] at HK HT
  obtain ⟨y, hy⟩ : ∃ y : ByteArray, ⟨m.toArray⟩ = y := ⟨_, rfl⟩
  rw [hy] at HK ⊢
  clear h hS hb hy
  go_enter Tryz.func40, Tryz.ntmps40
  go_wp2_with fail
  (with_reducible refine HK.out.mono ?_)
  rintro e w1 ⟨rfl, j, rfl⟩
  go_wp2_with fail
  (with_reducible refine (HT.out j).mono ?_)
  rintro e w2 ⟨rfl, HR, HG⟩
  have HG := Lib.hid (grown_trans (grown_of_below (below_drewN (Below.refl _ W) j) _) HG.out)
  go_wp2
  go_returns
  exact ⟨rfl, HR, HG⟩
theorem fld1 (x0 x1 x2 : Value) (w : World) : (Instr.field 60 (.agg #[x0, x1, x2]) 1).run Tryz.prog w = .ok x1 w := by kernel_rfl
theorem fld2 (x0 x1 x2 : Value) (w : World) : (Instr.field 60 (.agg #[x0, x1, x2]) 2).run Tryz.prog w = .ok x2 w := by kernel_rfl
set_option maxRecDepth 20000 in
theorem pname_any (w0 W : World) (rb : Nat) (ao : Option Addr) (n c : Nat) (l : List Lx.Tk) (s : Lx.St) (h : Rd w0 W rb ao n c l s) :
    Calls Tryz.prog 37 #[.pointer (some ⟨rb, 0, none⟩)] W fun e w' => e = .returned (.string ⟨(Lx.name l s).1.toArray⟩) ∧ Hid (Rd w0 w' rb ao n c l (Lx.name l s).2) ∧ Hid (W.grownBy w' (some rb)) := by
  have HK := Lib.hid (kind_any w0 W rb ao n c l s h)
  have HT := Lib.hid (fun j => take_any w0 (W.drewN j) rb ao n c l s (Lx.isNm l s.at_) (h.drew j) (fun q => by have := Lx.isNm_lt q; rw [h.tk.len] at this; exact this))
  unfold Lx.name
  obtain ⟨T, S, hS⟩ : ∃ T S, Lx.take l s (Lx.isNm l s.at_) = (T, S) := ⟨_, _, rfl⟩
  rw [hS] at HT ⊢
  have HB : Hid (Lx.isNm l s.at_ = ((Lx.tkAt l s.at_).1 == 1)) := Lib.hid (by unfold Lx.isNm; rfl)
  rw [HB.out] at HT
  obtain ⟨b, hb⟩ : ∃ b, (Lx.tkAt l s.at_).1 = b := ⟨_, rfl⟩
  rw [hb] at HK HT
  obtain ⟨u, hu⟩ : ∃ u, T.1 = u := ⟨_, rfl⟩
  obtain ⟨x, hx⟩ : ∃ x : ByteArray, ⟨T.2.1.toArray⟩ = x := ⟨_, rfl⟩
  obtain ⟨z, hz⟩ : ∃ z, T.2.2 = z := ⟨_, rfl⟩
  have hT : tv T = .agg #[.int .u8 u, .string x, .int .i64 z] := by unfold tv; rw [hu, hx, hz]
  rw [hT] at HT
  dsimp only
  rw [hx]
  clear h hS hb HB hT hu hx hz
  have hf := fld1
  go_enter Tryz.func37, Tryz.ntmps37
  go_wp2_with fail
  (with_reducible refine HK.out.mono ?_)
  rintro e w1 ⟨rfl, j, rfl⟩
  go_wp2_with fail
  (with_reducible refine (HT.out j).mono ?_)
  rintro e w2 ⟨rfl, HR, HG⟩
  have HG := Lib.hid (grown_trans (grown_of_below (below_drewN (Below.refl _ W) j) _) HG.out)
  go_wp2
  go_returns
  exact ⟨rfl, HR, HG⟩
set_option maxRecDepth 20000 in
theorem pnumber_any (w0 W : World) (rb : Nat) (ao : Option Addr) (n c : Nat) (l : List Lx.Tk) (s : Lx.St) (h : Rd w0 W rb ao n c l s) :
    Calls Tryz.prog 38 #[.pointer (some ⟨rb, 0, none⟩)] W fun e w' => e = .returned (.int .i64 (Lx.number l s).1) ∧ Hid (Rd w0 w' rb ao n c l (Lx.number l s).2) ∧ Hid (W.grownBy w' (some rb)) := by
  have HK := Lib.hid (isNumber_any w0 W rb ao n c l s h)
  have HT := Lib.hid (fun j => take_any w0 (W.drewN j) rb ao n c l s (Lx.isNu l s.at_) (h.drew j) (fun q => by have := Lx.isNu_lt q; rw [h.tk.len] at this; exact this))
  unfold Lx.number
  obtain ⟨T, S, hS⟩ : ∃ T S, Lx.take l s (Lx.isNu l s.at_) = (T, S) := ⟨_, _, rfl⟩
  rw [hS] at HT ⊢
  obtain ⟨b, hb⟩ : ∃ b, Lx.isNu l s.at_ = b := ⟨_, rfl⟩
  rw [hb] at HK HT
  obtain ⟨u, hu⟩ : ∃ u, T.1 = u := ⟨_, rfl⟩
  obtain ⟨x, hx⟩ : ∃ x : ByteArray, ⟨T.2.1.toArray⟩ = x := ⟨_, rfl⟩
  obtain ⟨z, hz⟩ : ∃ z, T.2.2 = z := ⟨_, rfl⟩
  have hT : tv T = .agg #[.int .u8 u, .string x, .int .i64 z] := by unfold tv; rw [hu, hx, hz]
  rw [hT] at HT
  dsimp only
  rw [hz]
  clear h hS hb hT hu hx hz
  have hf := fld2
  go_enter Tryz.func38, Tryz.ntmps38
  go_wp2_with fail
  (with_reducible refine HK.out.mono ?_)
  rintro e w1 ⟨rfl, j, rfl⟩
  go_wp2_with fail
  (with_reducible refine (HT.out j).mono ?_)
  rintro e w2 ⟨rfl, HR, HG⟩
  have HG := Lib.hid (grown_trans (grown_of_below (below_drewN (Below.refl _ W) j) _) HG.out)
  go_wp2
  go_returns
  exact ⟨rfl, HR, HG⟩

theorem end_bad (w0 W : World) (rb : Nat) (ao : Option Addr) (n c : Nat) (l : List Lx.Tk) (s : Lx.St) (h : Rd w0 W rb ao n c l s) (k : s.wrong ≠ 0) :
    Calls Tryz.prog 63 #[.pointer (some ⟨rb, 0, none⟩)] W fun e w' => e = .returned (.tuple #[.int .i64 0, .bool false]) ∧ Hid (Rd w0 w' rb ao n c l s) ∧ Hid (W.grownBy w' (some rb)) := by
  have c3 := h.cells.2.2.2
  have HH := Lib.hid h
  have k3 : (s.wrong != 0) = true := by simpa using k
  obtain ⟨x, hx⟩ : ∃ x, s.wrong = x := ⟨_, rfl⟩
  rw [hx] at c3 k3
  clear h k hx
  go_enter Tryz.func63, Tryz.ntmps63
  go_wp2
  go_returns
  exact ⟨rfl, HH, Lib.hid (World.grownBy.refl W _)⟩
theorem end_no (w0 W : World) (rb : Nat) (ao : Option Addr) (n c : Nat) (l : List Lx.Tk) (s : Lx.St) (h : Rd w0 W rb ao n c l s) (k : s.wrong = 0) (q : Lx.isNu l s.at_ = false) :
    Calls Tryz.prog 63 #[.pointer (some ⟨rb, 0, none⟩)] W fun e w' => e = .returned (.tuple #[.int .i64 0, .bool false]) ∧ Hid (Rd w0 w' rb ao n c l s) ∧ Hid (W.grownBy w' (some rb)) := by
  have c3 := h.cells.2.2.2
  have HH := Lib.hid h
  have HK := Lib.hid (isNumber_any w0 W rb ao n c l s h)
  rw [q] at HK
  rw [k] at c3
  clear h k q
  go_enter Tryz.func63, Tryz.ntmps63
  go_wp2_with fail
  (with_reducible refine HK.out.mono ?_)
  rintro e w1 ⟨rfl, j, rfl⟩
  go_wp2
  go_returns
  exact ⟨rfl, Lib.hid (HH.out.drew j), Lib.hid (grown_of_below (below_drewN (Below.refl _ W) j) _)⟩
theorem end_yes (w0 W : World) (rb : Nat) (ao : Option Addr) (n c : Nat) (l : List Lx.Tk) (s : Lx.St) (h : Rd w0 W rb ao n c l s) (k : s.wrong = 0) (q : Lx.isNu l s.at_ = true) :
    Calls Tryz.prog 63 #[.pointer (some ⟨rb, 0, none⟩)] W fun e w' => e = .returned (.tuple #[.int .i64 (Lx.number l s).1, .bool true]) ∧ Hid (Rd w0 w' rb ao n c l (Lx.number l s).2) ∧ Hid (W.grownBy w' (some rb)) := by
  have c3 := h.cells.2.2.2
  have HK := Lib.hid (isNumber_any w0 W rb ao n c l s h)
  have HN := Lib.hid (fun j => pnumber_any w0 (W.drewN j) rb ao n c l s (h.drew j))
  rw [q] at HK
  rw [k] at c3
  obtain ⟨T, S, hS⟩ : ∃ T S, Lx.number l s = (T, S) := ⟨_, _, rfl⟩
  rw [hS] at HN ⊢
  dsimp only at HN ⊢
  clear h k q hS
  go_enter Tryz.func63, Tryz.ntmps63
  go_wp2_with fail
  (with_reducible refine HK.out.mono ?_)
  rintro e w1 ⟨rfl, j, rfl⟩
  go_wp2_with fail
  (with_reducible refine (HN.out j).mono ?_)
  rintro e w2 ⟨rfl, HR, HG⟩
  have HG := Lib.hid (grown_trans (grown_of_below (below_drewN (Below.refl _ W) j) _) HG.out)
  go_wp2
  go_returns
  exact ⟨rfl, HR, HG⟩
theorem end_any (w0 W : World) (rb : Nat) (ao : Option Addr) (n c : Nat) (l : List Lx.Tk) (s : Lx.St) (h : Rd w0 W rb ao n c l s) :
    Calls Tryz.prog 63 #[.pointer (some ⟨rb, 0, none⟩)] W fun e w' => e = .returned (.tuple #[.int .i64 (Lx.endE l s).1.1, .bool (Lx.endE l s).1.2]) ∧ Hid (Rd w0 w' rb ao n c l (Lx.endE l s).2) ∧ Hid (W.grownBy w' (some rb)) := by
  by_cases k : s.wrong = 0
  · cases q : Lx.isNu l s.at_ with
    | false => rw [show Lx.endE l s = ((0, false), s) by unfold Lx.endE; rw [if_pos (.inr q)]]; exact end_no w0 W rb ao n c l s h k q
    | true =>
      rw [show Lx.endE l s = (((Lx.number l s).1, true), (Lx.number l s).2) by unfold Lx.endE; rw [if_neg (by simp [k, q])]]; exact end_yes w0 W rb ao n c l s h k q
  · rw [show Lx.endE l s = ((0, false), s) by unfold Lx.endE; rw [if_pos (.inl k)]]; exact end_bad w0 W rb ao n c l s h k
theorem fail_bad (w0 W : World) (rb : Nat) (ao : Option Addr) (n c : Nat) (l : List Lx.Tk) (s : Lx.St) (h : Rd w0 W rb ao n c l s) (k : s.wrong ≠ 0) :
    Calls Tryz.prog 26 #[.pointer (some ⟨rb, 0, none⟩)] W fun e w' => e = .returned (.bool true) ∧ Hid (Rd w0 w' rb ao n c l s) ∧ Hid (W.grownBy w' (some rb)) := by
  obtain ⟨c0, c1, _, c3⟩ := h.cells
  have HH := Lib.hid h
  have n1 := h.nlt
  have a1 := h.top
  have k3 : (s.wrong != 0) = true := by simpa using k
  have k2 : (s.wrong == 0) = false := by simpa using k
  obtain ⟨x, hx⟩ : ∃ x, s.wrong = x := ⟨_, rfl⟩
  rw [hx] at c3 k3 k2
  clear h k hx
  go_enter Tryz.func26, Tryz.ntmps26
  go_wp2
  go_quiet (fail)
  go_wp2
  go_returns
  exact ⟨rfl, Lib.hid (HH.out.drew _), Lib.hid (grown_of_below (below_drewN (Below.refl _ W) _) _)⟩
theorem fail_end (w0 W : World) (rb : Nat) (ao : Option Addr) (n c : Nat) (l : List Lx.Tk) (s : Lx.St) (h : Rd w0 W rb ao n c l s) (k : s.wrong = 0) (q : s.at_ = n) :
    Calls Tryz.prog 26 #[.pointer (some ⟨rb, 0, none⟩)] W fun e w' => e = .returned (.bool false) ∧ Hid (Rd w0 w' rb ao n c l s) ∧ Hid (W.grownBy w' (some rb)) := by
  obtain ⟨c0, c1, _, c3⟩ := h.cells
  have HH := Lib.hid h
  have n1 := h.nlt
  rw [k] at c3
  rw [q] at c1
  clear h k q
  go_enter Tryz.func26, Tryz.ntmps26
  go_wp2
  go_quiet (fail)
  go_wp2
  go_returns
  exact ⟨rfl, Lib.hid (HH.out.drew _), Lib.hid (grown_of_below (below_drewN (Below.refl _ W) _) _)⟩
theorem fail_more (w0 W : World) (rb : Nat) (ao : Option Addr) (n c : Nat) (l : List Lx.Tk) (s : Lx.St) (h : Rd w0 W rb ao n c l s) (k : s.wrong = 0) (q : s.at_ < n) :
    Calls Tryz.prog 26 #[.pointer (some ⟨rb, 0, none⟩)] W fun e w' => e = .returned (.bool true) ∧ Hid (Rd w0 w' rb ao n c l ⟨s.at_, s.parts, 110⟩) ∧ Hid (W.grownBy w' (some rb)) := by
  obtain ⟨c0, c1, _, c3⟩ := h.cells
  have n1 := h.nlt
  have c4 := blk_free h.box 3
  rw [k] at c3
  have HX := Lib.hid (fun j => ((h.drew j).wrong 110))
  obtain ⟨a, ha⟩ : ∃ a, s.at_ = a := ⟨_, rfl⟩
  rw [ha] at c1 q HX ⊢
  have q1 : (a : Int) < n := by omega
  have HF := Lib.hid (fun j => blk_free (h.drew j).box 3)
  have HC := Lib.hid (fun j => (h.drew j).cells.2.2.2)
  rw [k] at HC
  clear h k ha
  go_enter Tryz.func26, Tryz.ntmps26
  go_wp2
  go_quiet (fail)
  go_upto_region 3 with fail
  obtain ⟨wf, hwf⟩ : ∃ z, (W.drewN nq).setCell ⟨rb, 3, none⟩ (.int .i64 110) = z := ⟨_, rfl⟩
  have HR := Lib.hid (HX.out nq)
  rw [hwf] at HR ⊢
  have HG : Hid (W.grownBy wf (some rb)) := Lib.hid (by rw [← hwf]; exact grown_trans (grown_of_below (below_drewN (Below.refl _ W) nq) _) (grow_cell _ _ _))
  have c3 := HR.out.cells.2.2.2
  have c3 : wf.cell? ⟨rb, 3, none⟩ = some (.int .i64 110) := c3
  clear hwf HX HF HC c4
  go_wp2
  go_returns
  exact ⟨rfl, HR, HG⟩
theorem failed_any (w0 W : World) (rb : Nat) (ao : Option Addr) (n c : Nat) (l : List Lx.Tk) (s : Lx.St) (h : Rd w0 W rb ao n c l s) :
    Calls Tryz.prog 26 #[.pointer (some ⟨rb, 0, none⟩)] W fun e w' => e = .returned (.bool (decide ((Lx.failed l s).wrong ≠ 0))) ∧ Hid (Rd w0 w' rb ao n c l (Lx.failed l s)) ∧ Hid (W.grownBy w' (some rb)) := by
  by_cases k : s.wrong = 0
  · by_cases q : s.at_ = n
    · have e : Lx.failed l s = s := by unfold Lx.failed; rw [if_neg (by rw [h.tk.len]; omega)]
      rw [e, k]; exact fail_end w0 W rb ao n c l s h k q
    · have q1 : s.at_ < n := by have := h.top; omega
      have e : Lx.failed l s = ⟨s.at_, s.parts, 110⟩ := by unfold Lx.failed; rw [if_pos ⟨k, by rw [h.tk.len]; exact q1⟩]
      rw [e]; exact fail_more w0 W rb ao n c l s h k q1
  · have e : Lx.failed l s = s := by unfold Lx.failed; rw [if_neg (fun z => k z.1)]
    rw [e, decide_eq_true k]; exact fail_bad w0 W rb ao n c l s h k
/-- A range as a value. -/
def rv (x : Lx.Rg) : Value := .agg #[.int .i64 x.low, .int .i64 x.high, .bool x.hl, .bool x.hh]
/-- A block beside the reader stays. -/
theorem blk_stay {W W' : World} {rb b : Nat} {cs : Array Value} {t : TypeId} (h : W.heap[b]? = some (.cells cs t (0, 0))) (g : W.grownBy W' (some rb)) (hb : b ≠ rb) : W'.heap[b]? = some (.cells cs t (0, 0)) :=
  (g.block b (Array.getElem?_eq_some_iff.1 h).1 (fun e => hb (Option.some.inj e))).trans h
/-- What span holds on its way. -/
structure SpI (w0 W w : World) (rb b : Nat) (ao : Option Addr) (n c : Nat) (l : List Lx.Tk) (s : Lx.St) (x : Lx.Rg) : Prop where
  rd : Rd w0 w rb ao n c l s
  gr : W.grownBy w (some rb)
  lo : W.heap.size = b
  ne : w0.heap.size ≤ b ∧ rb < b
  box : w.heap[b]? = some (.cells #[.int .i64 0, .int .i64 0, .bool false, .bool false] 40 (0, 0))
  xb : w.heap[b + 1]? = some (.cells #[.int .i64 x.low, .int .i64 x.high, .bool x.hl, .bool x.hh] 40 (0, 0))
theorem SpI.step {w0 W w w' : World} {rb b : Nat} {ao : Option Addr} {n c : Nat} {l : List Lx.Tk} {s s' : Lx.St} {x : Lx.Rg} (h : SpI w0 W w rb b ao n c l s x) (r : Rd w0 w' rb ao n c l s') (g : w.grownBy w' (some rb)) : SpI w0 W w' rb b ao n c l s' x :=
  ⟨r, grown_trans h.gr g, h.lo, h.ne, blk_stay h.box g (by have := h.ne; omega), blk_stay h.xb g (by have := h.ne; omega)⟩
theorem SpI.low {w0 W w : World} {rb b : Nat} {ao : Option Addr} {n c : Nat} {l : List Lx.Tk} {s : Lx.St} {x : Lx.Rg} (h : SpI w0 W w rb b ao n c l s x) (u : Int) (v : Bool) : SpI w0 W ((w.setCell ⟨b + 1, 0, none⟩ (.int .i64 u)).setCell ⟨b + 1, 2, none⟩ (.bool v)) rb b ao n c l s ⟨u, x.high, v, x.hh⟩ := by
  have g : w.grownBy ((w.setCell ⟨b + 1, 0, none⟩ (.int .i64 u)).setCell ⟨b + 1, 2, none⟩ (.bool v)) (some (b + 1)) := grown_trans (grow_cell w ⟨b + 1, 0, none⟩ (.int .i64 u)) (grow_cell _ ⟨b + 1, 2, none⟩ (.bool v))
  have hn := h.ne
  refine ⟨h.rd.grown g (fun q e => by cases e; omega), grown_new h.gr g (by have := h.lo; omega), h.lo, h.ne, blk_stay h.box g (by omega), ?_⟩
  rw [set_block (set_block h.xb _ _) _ _]; rfl
theorem SpI.high {w0 W w : World} {rb b : Nat} {ao : Option Addr} {n c : Nat} {l : List Lx.Tk} {s : Lx.St} {x : Lx.Rg} (h : SpI w0 W w rb b ao n c l s x) (u : Int) (v : Bool) : SpI w0 W ((w.setCell ⟨b + 1, 1, none⟩ (.int .i64 u)).setCell ⟨b + 1, 3, none⟩ (.bool v)) rb b ao n c l s ⟨x.low, u, x.hl, v⟩ := by
  have g : w.grownBy ((w.setCell ⟨b + 1, 1, none⟩ (.int .i64 u)).setCell ⟨b + 1, 3, none⟩ (.bool v)) (some (b + 1)) := grown_trans (grow_cell w ⟨b + 1, 1, none⟩ (.int .i64 u)) (grow_cell _ ⟨b + 1, 3, none⟩ (.bool v))
  have hn := h.ne
  refine ⟨h.rd.grown g (fun q e => by cases e; omega), grown_new h.gr g (by have := h.lo; omega), h.lo, h.ne, blk_stay h.box g (by omega), ?_⟩
  rw [set_block (set_block h.xb _ _) _ _]; rfl
/-- Four cells written. -/
def put4 (W : World) (g : Nat) (y0 y1 y2 y3 : Value) : World := (((W.setCell ⟨g, 0, none⟩ y0).setCell ⟨g, 1, none⟩ y1).setCell ⟨g, 2, none⟩ y2).setCell ⟨g, 3, none⟩ y3
theorem put4_on {W : World} {g : Nat} {x0 x1 x2 x3 : Value} {t : TypeId} (h : W.heap[g]? = some (.cells #[x0, x1, x2, x3] t (0, 0))) (y0 y1 y2 y3 : Value) : (put4 W g y0 y1 y2 y3).heap[g]? = some (.cells #[y0, y1, y2, y3] t (0, 0)) := by
  unfold put4; rw [set_block (set_block (set_block (set_block h _ _) _ _) _ _) _ _]; rfl
theorem put4_grown (W : World) (g : Nat) (y0 y1 y2 y3 : Value) : W.grownBy (put4 W g y0 y1 y2 y3) (some g) := grown_trans (grown_trans (grown_trans (grow_cell W ⟨g, 0, none⟩ y0) (grow_cell _ ⟨g, 1, none⟩ y1)) (grow_cell _ ⟨g, 2, none⟩ y2)) (grow_cell _ ⟨g, 3, none⟩ y3)
set_option maxHeartbeats 1000000 in
theorem span_any (w0 W : World) (rb : Nat) (ao : Option Addr) (n c : Nat) (l : List Lx.Tk) (s : Lx.St) (h : Rd w0 W rb ao n c l s) :
    Calls Tryz.prog 39 #[.pointer (some ⟨rb, 0, none⟩)] W fun e w' => e = .returned (rv (Lx.span l s).1) ∧ Hid (Rd w0 w' rb ao n c l (Lx.span l s).2) ∧ Hid (W.grownBy w' (some rb)) := by
  obtain ⟨b, hb⟩ : ∃ z, W.heap.size = z := ⟨_, rfl⟩
  obtain ⟨w1, hw1⟩ : ∃ z, (W.alloc (.cells #[.int .i64 0, .int .i64 0, .bool false, .bool false] 40)).alloc (.cells #[.int .i64 0, .int .i64 0, .bool false, .bool false] 40) = z := ⟨_, rfl⟩
  have KA : Below W.heap.size W w1 := by rw [← hw1]; exact ((Below.refl _ W).alloc (Nat.le_refl _) _).alloc (by simp) _
  have HI : Hid (SpI w0 W w1 rb b ao n c l s ⟨0, 0, false, false⟩) := Lib.hid (by
    refine ⟨h.keep KA, grown_of_below KA _, hb, ⟨by have := h.bw.size; omega, by have := h.lt; omega⟩, ?_, ?_⟩
    · rw [← hw1, ← hb, al_old _ _ (by simp), al_new]
    · rw [← hw1, ← hb]
      have := al_new (W.alloc (.cells #[.int .i64 0, .int .i64 0, .bool false, .bool false] 40)) (.cells #[.int .i64 0, .int .i64 0, .bool false, .bool false] 40)
      simpa using this)
  have HM1 := Lib.hid (mark_any w0 w1 rb ao n c l s [91] HI.out.rd)
  have HA : Hid ((Lx.rgA l s) = Lx.endE l (Lx.mark l s [91])) := Lib.hid rfl
  have HB : Hid ((Lx.rgB l s) = Lx.endE l (Lx.mark l (Lx.rgA l s).2 [58])) := Lib.hid rfl
  unfold Lx.span
  dsimp only
  obtain ⟨⟨⟨a1, a2⟩, sa⟩, hA⟩ : ∃ z, Lx.rgA l s = z := ⟨_, rfl⟩
  obtain ⟨⟨⟨b1, b2⟩, sb⟩, hB⟩ : ∃ z, Lx.rgB l s = z := ⟨_, rfl⟩
  rw [hA] at HA HB ⊢
  rw [hB] at HB ⊢
  obtain ⟨sm, hm⟩ : ∃ z, Lx.mark l s [91] = z := ⟨_, rfl⟩
  rw [hm] at HA HM1
  dsimp only at HB ⊢
  obtain ⟨sn, hn⟩ : ∃ z, Lx.mark l sa [58] = z := ⟨_, rfl⟩
  rw [hn] at HB
  have HN := Lib.hid hn
  clear h KA hA hB hm hn
  go_enter Tryz.func39, Tryz.ntmps39
  go_upto_region 2 with fail
  clear hw1 hb
  go_wp2_with fail
  (with_reducible refine HM1.out.mono ?_)
  rintro e w2 ⟨rfl, HR, HG⟩
  have HI := Lib.hid (HI.out.step HR.out HG.out)
  have HE := Lib.hid (end_any w0 w2 rb ao n c l sm HR.out)
  rw [← HA.out] at HE
  dsimp only at HE
  clear HR HG HM1
  have d0 := cell_blk HI.out.xb 0
  have d2 := cell_blk HI.out.xb 2
  go_wp2_with fail
  (with_reducible refine HE.out.mono ?_)
  rintro e w3 ⟨rfl, HR, HG⟩
  have HI := Lib.hid (HI.out.step HR.out HG.out)
  clear d0 d2 HE
  have d0 := cell_blk HI.out.xb 0
  have d2 := cell_blk HI.out.xb 2
  have f0 := blk_free HI.out.xb 0
  have f2 := blk_free HI.out.xb 2
  go_upto_region 4 with fail
  obtain ⟨w4, hw4⟩ : ∃ z, (w3.setCell ⟨b + 1, 0, none⟩ (.int .i64 a1)).setCell ⟨b + 1, 2, none⟩ (.bool a2) = z := ⟨_, rfl⟩
  have HI := Lib.hid (HI.out.low a1 a2)
  rw [hw4] at HI ⊢
  clear d0 d2 f0 f2 hw4 HR HG
  have HM2 := Lib.hid (mark_any w0 w4 rb ao n c l sa [58] HI.out.rd)
  rw [HN.out] at HM2
  go_wp2_with fail
  (with_reducible refine HM2.out.mono ?_)
  rintro e w5 ⟨rfl, HR, HG⟩
  have HI := Lib.hid (HI.out.step HR.out HG.out)
  have HE := Lib.hid (end_any w0 w5 rb ao n c l sn HR.out)
  rw [← HB.out] at HE
  dsimp only at HE
  clear HR HG HM2
  go_wp2_with fail
  (with_reducible refine HE.out.mono ?_)
  rintro e w6 ⟨rfl, HR, HG⟩
  have HI := Lib.hid (HI.out.step HR.out HG.out)
  have d0 := cell_blk HI.out.xb 1
  have d2 := cell_blk HI.out.xb 3
  have f0 := blk_free HI.out.xb 1
  have f2 := blk_free HI.out.xb 3
  go_upto_region 6 with fail
  obtain ⟨w7, hw7⟩ : ∃ z, (w6.setCell ⟨b + 1, 1, none⟩ (.int .i64 b1)).setCell ⟨b + 1, 3, none⟩ (.bool b2) = z := ⟨_, rfl⟩
  have HI := Lib.hid (HI.out.high b1 b2)
  rw [hw7] at HI ⊢
  dsimp only at HI
  clear d0 d2 f0 f2 hw7 HR HG HE
  have HM3 := Lib.hid (mark_any w0 w7 rb ao n c l sb [93] HI.out.rd)
  obtain ⟨sf, hf⟩ : ∃ z, Lx.mark l sb [93] = z := ⟨_, rfl⟩
  rw [hf] at HM3
  go_wp2_with fail
  (with_reducible refine HM3.out.mono ?_)
  rintro e w8 ⟨rfl, HR, HG⟩
  have HI := Lib.hid (HI.out.step HR.out HG.out)
  have d0 := cell_blk HI.out.xb 0
  have d1 := cell_blk HI.out.xb 1
  have d2 := cell_blk HI.out.xb 2
  have d3 := cell_blk HI.out.xb 3
  have g0 := cell_blk HI.out.box 0
  have g1 := cell_blk HI.out.box 1
  have g2 := cell_blk HI.out.box 2
  have g3 := cell_blk HI.out.box 3
  have f0 := blk_free HI.out.box 0
  have f1 := blk_free HI.out.box 1
  have f2 := blk_free HI.out.box 2
  have f3 := blk_free HI.out.box 3
  clear HR HG HM3
  go_wp2
  obtain ⟨wf, hwf⟩ : ∃ z, put4 w8 b (.int .i64 a1) (.int .i64 b1) (.bool a2) (.bool b2) = z := ⟨_, rfl⟩
  have hwf' := hwf
  unfold put4 at hwf'
  rw [hwf']
  have XF := put4_on HI.out.box (.int .i64 a1) (.int .i64 b1) (.bool a2) (.bool b2)
  have g := put4_grown w8 b (.int .i64 a1) (.int .i64 b1) (.bool a2) (.bool b2)
  rw [hwf] at g XF
  have r0 := cell_blk XF 0
  have r1 := cell_blk XF 1
  have r2 := cell_blk XF 2
  have r3 := cell_blk XF 3
  refine bodyPost_ret (v := rv ⟨a1, b1, a2, b2⟩) (by unfold rv; simp [results, Tryz.results39, go_sem, r0, r1, r2, r3]) rfl ⟨rfl, Lib.hid ?_, Lib.hid ?_⟩
  · rw [← hf] at HI; exact HI.out.rd.grown g (fun q e => by cases e; have := HI.out.ne; omega)
  · exact grown_new HI.out.gr g (Nat.le_of_eq HI.out.lo)
end Go.Proofs.YtimjendkpjojoaaGreatDoor
