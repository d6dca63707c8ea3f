/- A calendar in memory; the closure that makes a form. -/
import Derived.Test.YtacpcokmgahjaaaDoorB4
import Derived.Test.YtacpcokmgahjaaaDoorB1
namespace Go.Proofs.YtacpcokmgahjaaaDoor
set_option linter.unusedVariables false
set_option linter.unusedSimpArgs false
open Go.ChangeShapes Go.WideShapes Go.ChangeAt Go.RowKit
/-- One cell of the store: made, or not. -/
def CellAt (w : World) (m c k g : Nat) (cur : Array Value) (i : Nat) (b : Bool) : Prop :=
  (b = true → ∃ h B e, c < B ∧ k < B ∧ g < B ∧ e ≤ m ∧ cur[i * 7]? = some (.int .u32 1) ∧ cur[i * 7 + 3]? = some (.int .i64 (bP i)) ∧ cur[i * 7 + 4]? = some (.int .i64 (bN i : Int)) ∧ cur[i * 7 + 5]? = some (.slice (some ⟨h, 0, none⟩) (bN i) (bN i)) ∧ cur[i * 7 + 6]? = some (.slice none 0 0) ∧ ∀ W : World, (∀ q, B ≤ q → q < e → W.heap[q]? = w.heap[q]?) → CoAt W (some ⟨h, 0, none⟩) (bN i) (bN i) (bC i)) ∧
  (b = false → cur[i * 7]? = some (.int .u32 0) ∧ cur[i * 7 + 1]? = some (.int .i32 0))
theorem CellAt.move {w w2 : World} {m m2 c k g : Nat} {cur cur2 : Array Value} {i : Nat} {b : Bool} (h : CellAt w m c k g cur i b) (hs : m ≤ m2) (hq : ∀ q, c < q → k < q → g < q → q < m → w2.heap[q]? = w.heap[q]?) (hc : ∀ j, j < 7 → cur2[i * 7 + j]? = cur[i * 7 + j]?) : CellAt w2 m2 c k g cur2 i b := by
  refine ⟨fun hb => ?_, fun hb => ?_⟩
  · obtain ⟨h', B, e, b1, b2, b3, he, x0, x3, x4, x5, x6, hco⟩ := h.1 hb
    exact ⟨h', B, e, b1, b2, b3, Nat.le_trans he hs, (hc 0 (by decide)).trans x0, (hc 3 (by decide)).trans x3, (hc 4 (by decide)).trans x4, (hc 5 (by decide)).trans x5, (hc 6 (by decide)).trans x6, fun W hW => hco W (fun q q1 q2 => (hW q q1 q2).trans (hq q (by omega) (by omega) (by omega) (by omega)))⟩
  · have := h.2 hb
    exact ⟨(hc 0 (by decide)).trans this.1, (hc 1 (by decide)).trans this.2⟩
/-- A calendar. -/
structure Cd (w : World) (m c k g : Nat) (st : Nat → Bool) (n : Int) : Prop where
  mb : m ≤ w.heap.size
  cb : w.heap[c]? = some (.cells #[.pointer (some ⟨c, 0, none⟩), .pointer (some ⟨k, 0, none⟩)] 59 (0, 0))
  kb : w.heap[k]? = some (.cells #[.slice (some ⟨g, 0, none⟩) 6 6, .int .i64 n] 68 (0, 0))
  gb : ∃ cur, w.heap[g]? = some (.cells cur 103 (0, 0)) ∧ cur.size = 42 ∧ ∀ i, i < 6 → CellAt w m c k g cur i (st i)
theorem Cd.keep {w w2 : World} {m c k g : Nat} {st : Nat → Bool} {n : Int} (h : Cd w m c k g st n) (q : Below w.heap.size w w2) : Cd w2 m c k g st n := by
  obtain ⟨cur, a, b, d⟩ := h.gb
  have hm := h.mb
  exact ⟨Nat.le_trans hm q.size, (q.block c (Array.getElem?_eq_some_iff.1 h.cb).1).trans h.cb, (q.block k (Array.getElem?_eq_some_iff.1 h.kb).1).trans h.kb, cur, (q.block g (Array.getElem?_eq_some_iff.1 a).1).trans a, b, fun i hi => (d i hi).move (Nat.le_refl _) (fun r _ _ _ hr => q.block r (by omega)) (fun j _ => rfl)⟩
theorem names_cell {w : World} {g i : Nat} (h : w.heap[g]? = some (.cells #[.string ⟨#[116, 105, 99, 107]⟩, .string ⟨#[100, 97, 121]⟩, .string ⟨#[119, 101, 101, 107]⟩, .string ⟨#[109, 111, 110, 116, 104]⟩, .string ⟨#[113, 117, 97, 114, 116, 101, 114]⟩, .string ⟨#[121, 101, 97, 114]⟩] 9 (0, 0))) (hi : i < 6) : w.cell? ⟨g, i, none⟩ = some (.string (nm i)) := by
  rw [cell_blk h i]
  match i, hi with
  | 0, _ => rfl
  | 1, _ => rfl
  | 2, _ => rfl
  | 3, _ => rfl
  | 4, _ => rfl
  | 5, _ => rfl
theorem cell_has {w : World} {b : Nat} {c : Array Value} {t : TypeId} (h : w.heap[b]? = some (.cells c t (0, 0))) {k : Nat} (hk : k < c.size) : ∃ v, w.cell? ⟨b, k, none⟩ = some v := ⟨c[k], by rw [cell_blk h k]; exact Array.getElem?_eq_getElem hk⟩
theorem cell_off {w w' : World} {a : Addr} {v : Value} {g : Nat} (h : w.cell? a = some v) (q : w.grownBy w' (some g)) (hn : a.block ≠ g) : w'.cell? a = some v := by
  rw [← h]; unfold World.cell?; rw [q.block a.block (cell_here h) (fun z => hn (Option.some.inj z))]
theorem grow_four' (w : World) (b a0 a1 a2 a3 : Nat) (x0 x1 x2 x3 : Value) : w.grownBy ((((w.setCell ⟨b, a0, none⟩ x0).setCell ⟨b, a1, none⟩ x1).setCell ⟨b, a2, none⟩ x2).setCell ⟨b, a3, none⟩ x3) (some b) := by
  refine ⟨rfl, rfl, rfl, by simp [World.setCell], fun q hq hne => ?_⟩
  have hn : q ≠ b := fun e => hne (by rw [e])
  rw [Below.heap_setCell _ _ _ _ hn, Below.heap_setCell _ _ _ _ hn, Below.heap_setCell _ _ _ _ hn, Below.heap_setCell _ _ _ _ hn]
/-- What the closure leaves: a form made, laid into the cell, counted. -/
structure Laid5 (w : World) (k g i : Nat) (cur : Array Value) (n : Int) (w' : World) : Prop where
  sz : w.heap.size ≤ w'.heap.size
  os : w'.os = w.os
  tape : w'.tape = w.tape
  output : w'.output = w.output
  old : ∀ q, q < w.heap.size → q ≠ k → q ≠ g → w'.heap[q]? = w.heap[q]?
  kb : w'.heap[k]? = some (.cells #[.slice (some ⟨g, 0, none⟩) 6 6, .int .i64 (n + 1)] 68 (0, 0))
  gb : ∃ h, w'.heap[g]? = some (.cells ((((cur.setIfInBounds (i * 7 + 3) (.int .i64 (bP i))).setIfInBounds (i * 7 + 4) (.int .i64 (bN i : Int))).setIfInBounds (i * 7 + 5) (.slice (some ⟨h, 0, none⟩) (bN i) (bN i))).setIfInBounds (i * 7 + 6) (.slice none 0 0)) 103 (0, 0)) ∧ ∀ W : World, (∀ q, w.heap.size ≤ q → q < w'.heap.size → W.heap[q]? = w'.heap[q]?) → CoAt W (some ⟨h, 0, none⟩) (bN i) (bN i) (bC i)
set_option maxRecDepth 8000 in
set_option maxHeartbeats 4000000 in
theorem clos_any (i : Nat) (hi : i < 6) (w : World) (k g ib ab sb : Nat) (cur : Array Value) (n : Int) (n0 : 0 ≤ n) (n1 : n ≤ 1000) (hT : Tab w) (hib : w.cell? ⟨ib, 0, none⟩ = some (.int .i64 (i : Int))) (hab : w.cell? ⟨ab, 0, none⟩ = some (.pointer (some ⟨g, i * 7, none⟩))) (hsb : w.cell? ⟨sb, 0, none⟩ = some (.pointer (some ⟨k, 0, none⟩)))
    (hg : w.heap[g]? = some (.cells cur 103 (0, 0))) (hcs : cur.size = 42) (hk : w.heap[k]? = some (.cells #[.slice (some ⟨g, 0, none⟩) 6 6, .int .i64 n] 68 (0, 0))) (hsg : sb ≠ g) :
    Calls Tryd.prog 45 #[.pointer (some ⟨ib, 0, none⟩), .pointer (some ⟨ab, 0, none⟩), .pointer (some ⟨sb, 0, none⟩)] w fun e w' => e = .returned (.tuple #[]) ∧ Hid (Laid5 w k g i cur n w') := by
  have HT := Lib.hid hT
  have HGG := Lib.hid hg
  have HKK := Lib.hid hk
  have HCS := Lib.hid hcs
  have hkg : k ≠ g := fun z => by rw [z, hg] at hk; simp at hk
  have HKG := Lib.hid hkg
  have i0 : (0 : Int) ≤ (i : Int) := by omega
  have i1 : (i : Int) < 6 := by omega
  have HI := Lib.hid hi
  have HM := Lib.hid (fun W h => made_any i hi W (hT.keep h))
  clear hT hg hk hcs hkg
  go_enter Tryd.func45, Tryd.ntmps45
  have HBR := Lib.hid ((Below.refl w.heap.size w).drew)
  go_upto_region 0 with fail
  go_region_law (first
    | (go_simp; go_at_call 9; (with_reducible refine (names_any _).mono ?_); rintro e w2 ⟨rfl, hw2⟩; have K2 : Hid (Below w.heap.size w w2) := Lib.hid (by rw [hw2]; exact ((Below.refl _ w).drew).alloc (Nat.le_refl _) _); have hnb := names_cell (w := w2) (g := w.heap.size) (i := i) (by rw [hw2]; exact al_new w.drew _) HI.out; have hib := cell_keep hib K2.out; have hab := cell_keep hab K2.out; clear hw2)
    | (go_simp; go_at_call 46; (with_reducible refine (HM.out _ K2.out).mono ?_); rintro e w3 ⟨h, rfl, hco, q3⟩; have HCO := Lib.hid hco; have Q3 := Lib.hid q3; have hab := cell_keep hab Q3.out; have hib := cell_keep hib Q3.out; have K3 := Lib.hid (K2.out.trans (q3.mono K2.out.size)); have hg3 := (K3.out.block g (Array.getElem?_eq_some_iff.1 HGG.out).1).trans HGG.out; have f3 := blk_free hg3 (i * 7 + 3); have f4 := blk_free hg3 (i * 7 + 3 + 1); have f5 := blk_free hg3 (i * 7 + 3 + 2); have f6 := blk_free hg3 (i * 7 + 3 + 3); obtain ⟨x3, g3⟩ := cell_has hg3 (k := i * 7 + 3) (by have := HCS.out; have := HI.out; omega); obtain ⟨x4, g4⟩ := cell_has hg3 (k := i * 7 + 3 + 1) (by have := HCS.out; have := HI.out; omega); obtain ⟨x5, g5⟩ := cell_has hg3 (k := i * 7 + 3 + 2) (by have := HCS.out; have := HI.out; omega); obtain ⟨x6, g6⟩ := cell_has hg3 (k := i * 7 + 3 + 3) (by have := HCS.out; have := HI.out; omega); have HG3 := Lib.hid hg3; clear hco q3 hg3)
    | fail)
  all_goals
    have HW4 := Lib.hid (set_block (set_block (set_block (set_block HG3.out (i * 7 + 3) (.int .i64 (bP i))) (i * 7 + 3 + 1) (.int .i64 (bN i : Int))) (i * 7 + 3 + 2) (.slice (some ⟨h, 0, none⟩) (bN i) (bN i))) (i * 7 + 3 + 3) (.slice none 0 0))
    have HR4 := Lib.hid (grow_four' w3 g (i * 7 + 3) (i * 7 + 3 + 1) (i * 7 + 3 + 2) (i * 7 + 3 + 3) (.int .i64 (bP i)) (.int .i64 (bN i : Int)) (.slice (some ⟨h, 0, none⟩) (bN i) (bN i)) (.slice none 0 0))
    generalize hw4 : (((w3.setCell ⟨g, i * 7 + 3, none⟩ (.int .i64 (bP i))).setCell ⟨g, i * 7 + 3 + 1, none⟩ (.int .i64 (bN i : Int))).setCell ⟨g, i * 7 + 3 + 2, none⟩ (.slice (some ⟨h, 0, none⟩) (bN i) (bN i))).setCell ⟨g, i * 7 + 3 + 3, none⟩ (.slice none 0 0) = w4 at HW4 HR4 ⊢
    clear hw4 f3 f4 f5 f6 g3 g4 g5 g6 hab hib hnb
    have hs4 := cell_off (cell_keep hsb K3.out) HR4.out hsg
    have hk3 := (K3.out.block k (Array.getElem?_eq_some_iff.1 HKK.out).1).trans HKK.out
    have hk4 := (HR4.out.block k (Array.getElem?_eq_some_iff.1 hk3).1 (fun z => HKG.out (Option.some.inj z))).trans hk3
    have HK4 := Lib.hid hk4
    have HAD := Lib.hid (made_add ⟨k, 1, none⟩ n w4 (cell_blk hk4 1) (blk_free hk4 1) n0 n1)
    clear hk3 hk4
    go_wp2_with fail
    (with_reducible refine HAD.out.mono ?_)
    rintro e w5 ⟨rfl, hw5⟩
    have HE : Hid (Laid5 w k g i cur n w5) := Lib.hid (by
      subst hw5
      have gk := grow_cell w4 ⟨k, 1, none⟩ (.int .i64 (n + 1))
      have s3 := K3.out.size
      have s4 := HR4.out.size
      have s5 := gk.size
      have lk := (Array.getElem?_eq_some_iff.1 HKK.out).1
      have lg := (Array.getElem?_eq_some_iff.1 HGG.out).1
      have hs2 := K2.out.size
      refine ⟨by omega, gk.os.trans (HR4.out.os.trans K3.out.os), gk.tape.trans (HR4.out.tape.trans K3.out.tape), gk.output.trans (HR4.out.output.trans K3.out.output), fun q hq qk qg => ?_, ?_, h, ?_, fun W hW => HCO.out W (fun q q1 q2 => ?_)⟩
      · exact (gk.block q (by omega) (fun z => qk (Option.some.inj z))).trans ((HR4.out.block q (by omega) (fun z => qg (Option.some.inj z))).trans (K3.out.block q hq))
      · rw [set_block HK4.out 1 _]; rfl
      · exact (gk.block g (by omega) (fun z => HKG.out (Option.some.inj z).symm)).trans HW4.out
      · exact (hW q (by omega) (by omega)).trans ((gk.block q (by omega) (fun z => by have : q = k := Option.some.inj z; omega)).trans (HR4.out.block q (by omega) (fun z => by have : q = g := Option.some.inj z; omega))))
    clear hw5 HAD hs4
    go_wp2
    go_end0
    exact ⟨rfl, HE⟩
end Go.Proofs.YtacpcokmgahjaaaDoor
