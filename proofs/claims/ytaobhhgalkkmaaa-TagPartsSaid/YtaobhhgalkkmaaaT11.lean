/- TagRanges: the walk. -/
import Derived.Test.YtaobhhgalkkmaaaV3
namespace Go.Proofs.Ytaobhhgalkkmaaa
set_option linter.unusedVariables false
set_option linter.unusedSimpArgs false
open Go.ChangeShapes Go.WideShapes Go.ChangeAt Go.RowKit
/-- The network of one form, and two ticks, in memory. -/
structure TR (F : Fv) (x y : Int) (g1 gt bn bt : Nat) (W : World) : Prop where
  at_ : F.At W
  h1 : W.heap[g1]? = some (.cells F.box 25 (0, 0))
  h2 : W.heap[bn]? = some (.cells #[.int .i64 2, .slice (some ⟨g1, 0, none⟩) 1 1, .slice none 0 0] 38 (0, 0))
  h3 : W.heap[bt]? = some (.cells #[.slice (some ⟨gt, 0, none⟩) 2 2] 39 (0, 0))
  h4 : W.heap[gt]? = some (.cells #[.int .i64 x, .int .i64 y] 3 (0, 0))
theorem TR.keep {F : Fv} {x y : Int} {g1 gt bn bt : Nat} {W W' : World} (h : TR F x y g1 gt bn bt W) (k : Below W.heap.size W W') : TR F x y g1 gt bn bt W' := ⟨h.at_.keep k, heap_keep h.h1 k, heap_keep h.h2 k, heap_keep h.h3 k, heap_keep h.h4 k⟩
abbrev trN (F : Fv) (g1 : Nat) : Nv := ⟨2, some ⟨g1, 0, none⟩, 1, 1, none, 0, 0, [F], []⟩
theorem tr_net {F : Fv} {x y : Int} {g1 gt bn bt : Nat} {W : World} (h : TR F x y g1 gt bn bt W) : (trN F g1).At W :=
  ⟨(show (-9223372036854775808 : Int) ≤ 2 by decide), (show (2 : Int) ≤ 9223372036854775807 by decide),
   ⟨rfl, Nat.le_refl _, (show 1 ≤ 9223372036854775807 by decide), (fun G hG => by rw [List.mem_singleton.1 hG]; exact h.at_), fun _ => ⟨g1, 0, rfl, fun i hi => by
      obtain rfl : i = 0 := by simpa using hi
      exact ⟨cell_block h.h1 0, cell_block h.h1 1, cell_block h.h1 2, cell_block h.h1 3⟩⟩⟩,
   ⟨rfl, Nat.le_refl _, (show 0 ≤ 9223372036854775807 by decide), fun h0 => absurd h0 (Nat.lt_irrefl _)⟩⟩
theorem tr_fits (lo hi : Int) (hl hh : Bool) : FitsC 2 1 ⟨0, 1, 0, lo, hi, hl, hh⟩ := ⟨⟨(show (0 : Int) ≤ 0 by decide), (show (0 : Int) < 2 by decide)⟩, ⟨(show (0 : Int) ≤ 1 by decide), (show (1 : Int) < 2 by decide)⟩, (show (0 : Int) ≤ 0 by decide), (show (0 : Int) < ((1 : Nat) : Int) by decide)⟩
theorem tr_own {x y : Int} (x1 : -1099511627776 ≤ x) (x2 : x ≤ 1099511627776) (y1 : -1099511627776 ≤ y) (y2 : y ≤ 1099511627776) : Own 2 [x, y] := ⟨rfl, fun t ht => by simp at ht; rcases ht with rfl | rfl <;> omega⟩
set_option maxRecDepth 8000 in
set_option maxHeartbeats 2000000 in
theorem clo_any (F : Fv) (x y ia ib : Int) (oa ob : Bool) (rt : F.Rt) (ok : F.Ok) (hc : F.cn ≤ 10000) (ha : AtIs F x ia oa) (hb : AtIs F y ib ob) (hown : Own 2 [x, y]) (g1 gt bn bt : Nat) (lo hi : Int) (hl hh : Bool) (w : World) (h : TR F x y g1 gt bn bt w) (r : Bool) (hr : r = true ↔ oa = true ∧ ob = true ∧ InRg lo hi hl hh (ib - ia)) :
    Calls Try.prog 10 #[.agg #[.int .i64 lo, .int .i64 hi, .bool hl, .bool hh], .pointer (some ⟨bn, 0, none⟩), .pointer (some ⟨bt, 0, none⟩)] w fun e w' => e = .returned (.bool r) ∧ Hid (Below w.heap.size w w') := by
  have HRR : Hid (r = true ↔ Own (trN F g1).vars [x, y] ∧ Met (trN F g1).fs (trN F g1).vars [x, y] ⟨0, 1, 0, lo, hi, hl, hh⟩) := Lib.hid (by
    have q := met_ways (fs := [F]) (vars := 2) (ts := [x, y]) (c := ⟨0, 1, 0, lo, hi, hl, hh⟩) (tr_fits lo hi hl hh) rt ok h.at_.core.len rfl rfl rfl ha hb
    rw [hr]
    exact ⟨fun z => ⟨hown, q.2 z⟩, fun z => q.1 z.2⟩)
  have HTR := Lib.hid h
  have CM := Lib.hid (fun W (k : TR F x y g1 gt bn bt W) => meets_any (trN F g1) ⟨0, 1, 0, lo, hi, hl, hh⟩ (some ⟨gt, 0, none⟩) 2 2 [x, y] W (tr_net k) (iz_two k.h4) (fun G hG => by rw [List.mem_singleton.1 hG]; exact ⟨rt, ok, hc⟩) r HRR.out)
  have CM : Hid (∀ W, TR F x y g1 gt bn bt W → Calls Try.prog 11 #[.agg #[.int .i64 2, .slice (some ⟨g1, 0, none⟩) 1 1, .slice none 0 0], .agg #[.int .i64 0, .int .i64 1, .int .i64 0, .int .i64 lo, .int .i64 hi, .bool hl, .bool hh], .slice (some ⟨gt, 0, none⟩) 2 2] W fun e w' => e = .returned (.bool r) ∧ Hid (Below W.heap.size W w')) := CM
  clear h hr rt ok hc ha hb hown HRR
  obtain ⟨b, hb⟩ : ∃ b, w.heap.size = b := ⟨_, rfl⟩
  obtain ⟨wb, hwb⟩ : ∃ wb, w.alloc (.cells #[.int .i64 lo, .int .i64 hi, .bool hl, .bool hh] 34) = wb := ⟨_, rfl⟩
  have KB : Hid (Below w.heap.size w wb) := Lib.hid (by rw [← hwb]; exact (Below.refl _ _).alloc (Nat.le_refl _) _)
  have HN : Hid (wb.heap[b]? = some (.cells #[.int .i64 lo, .int .i64 hi, .bool hl, .bool hh] 34 (0, 0))) := Lib.hid (by rw [← hwb]; exact heap_at hb)
  have HT := Lib.hid (HTR.out.keep KB.out)
  go_enter Try.func10, Try.ntmps10
  go_upto_region 1 with fail
  clear hwb hb
  have e0 : wb.cell? ⟨b, 0, none⟩ = some (.int .i64 lo) := cell_block HN.out 0
  have e1 : wb.cell? ⟨b, 1, none⟩ = some (.int .i64 hi) := cell_block HN.out 1
  have e2 : wb.cell? ⟨b, 2, none⟩ = some (.bool hl) := cell_block HN.out 2
  have e3 : wb.cell? ⟨b, 3, none⟩ = some (.bool hh) := cell_block HN.out 3
  have f0 : wb.cell? ⟨bn, 0, none⟩ = some (.int .i64 2) := cell_block HT.out.h2 0
  have f1 : wb.cell? ⟨bn, 1, none⟩ = some (.slice (some ⟨g1, 0, none⟩) 1 1) := cell_block HT.out.h2 1
  have f2 : wb.cell? ⟨bn, 2, none⟩ = some (.slice none 0 0) := cell_block HT.out.h2 2
  have g0 : wb.cell? ⟨bt, 0, none⟩ = some (.slice (some ⟨gt, 0, none⟩) 2 2) := cell_block HT.out.h3 0
  go_wp2_with fail
  (with_reducible refine (CM.out _ HT.out).mono ?_)
  rintro e w2 ⟨rfl, q⟩
  clear e0 e1 e2 e3 f0 f1 f2 g0
  go_wp2
  go_returns
  exact ⟨rfl, Lib.hid (KB.out.trans (q.out.mono KB.out.size))⟩
theorem two {w : World} {n : Nat} (h : w.heap.size = n) (o1 o2 : Obj) : Below w.heap.size w (((w.alloc o1).alloc o2).drew) ∧ (((w.alloc o1).alloc o2).drew).heap[n]? = some o1 ∧ (((w.alloc o1).alloc o2).drew).heap[n + 1]? = some o2 := by
  refine ⟨(((Below.refl _ w).alloc (Nat.le_refl _) _).alloc (by simp) _).drew, ?_, ?_⟩
  · show ((w.alloc o1).alloc o2).heap[n]? = _
    rw [Below.heap_alloc _ _ _ (by simp; omega)]; exact heap_at h
  · show ((w.alloc o1).alloc o2).heap[n + 1]? = _
    exact heap_at (by simp; omega)
end Go.Proofs.Ytaobhhgalkkmaaa
