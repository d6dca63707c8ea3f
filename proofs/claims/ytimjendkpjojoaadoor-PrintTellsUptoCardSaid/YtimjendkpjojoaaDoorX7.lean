/- print: the text of a range. -/
import Derived.Test.YtimjendkpjojoaaDoorX6
namespace Go.Proofs.YtimjendkpjojoaaDoor
set_option linter.unusedVariables false
set_option linter.unusedSimpArgs false
open Go.ChangeShapes Go.WideShapes Go.ChangeAt Go.RowKit

namespace Lx
def rgL (r : Rg) : List UInt8 := [91] ++ (if r.hl = true then Lib.itoa r.low else []) ++ [58] ++ (if r.hh = true then Lib.itoa r.high else []) ++ [93]
end Lx
theorem itoa_len {z : Int} (h : -9223372036854775808 ≤ z ∧ z ≤ 9223372036854775807) : (⟨(Lib.itoa z).toArray⟩ : ByteArray).size ≤ 21 := by
  rw [len_toArray]; exact Lib.itoa_length_le z h.1 h.2
theorem span_bytes (a b : ByteArray) (l m : List UInt8) (h1 : a.data.toList = l) (h2 : b.data.toList = m) : (⟨#[91]⟩ : ByteArray) ++ a ++ ⟨#[58]⟩ ++ b ++ ⟨#[93]⟩ = ⟨([91] ++ l ++ [58] ++ m ++ [93]).toArray⟩ := by
  subst h1 h2
  apply ByteArray.ext
  apply Array.ext'
  simp
theorem blk_below {w w' : World} {b : Nat} {o : Obj} (h : w.heap[b]? = some o) (q : Below w.heap.size w w') : w'.heap[b]? = some o := (q.block b (Array.getElem?_eq_some_iff.1 h).1).trans h
set_option maxHeartbeats 2000000 in
theorem pspan_any (r : Lx.Rg) (w : World) (hT : Tp w) (h1 : -9223372036854775808 ≤ r.low ∧ r.low ≤ 9223372036854775807) (h2 : -9223372036854775808 ≤ r.high ∧ r.high ≤ 9223372036854775807) :
    Calls Tryd.prog 24 #[.agg #[.int .i64 r.low, .int .i64 r.high, .bool r.hl, .bool r.hh]] w fun e w' => e = .returned (.string ⟨(Lx.rgL r).toArray⟩) ∧ Below w.heap.size w w' := by
  obtain ⟨lo, hi, hl, hh⟩ := r
  dsimp only at h1 h2 ⊢
  obtain ⟨bx, hbx⟩ : ∃ z, w.heap.size = z := ⟨_, rfl⟩
  obtain ⟨w1, hw1⟩ : ∃ z, w.alloc (.cells #[.int .i64 lo, .int .i64 hi, .bool hl, .bool hh] 28) = z := ⟨_, rfl⟩
  have KA : Hid (Below w.heap.size w w1) := Lib.hid (by rw [← hw1]; exact (Below.refl _ w).alloc (Nat.le_refl _) _)
  have HX : Hid (w1.heap[bx]? = some (.cells #[.int .i64 lo, .int .i64 hi, .bool hl, .bool hh] 28 (0, 0))) := Lib.hid (by rw [← hw1, ← hbx, al_new])
  have HL := Lib.hid (fun W (q : Below w.heap.size w W) => fmt_any lo h1.1 h1.2 W (hT.keep q))
  have HH := Lib.hid (fun W (q : Below w.heap.size w W) => fmt_any hi h2.1 h2.2 W (hT.keep q))
  have sl := itoa_len h1
  have sh := itoa_len h2
  have HEL : Hid ((⟨(Lib.itoa lo).toArray⟩ : ByteArray).data.toList = Lib.itoa lo) := Lib.hid (by simp)
  have HEH : Hid ((⟨(Lib.itoa hi).toArray⟩ : ByteArray).data.toList = Lib.itoa hi) := Lib.hid (by simp)
  unfold Lx.rgL
  dsimp only
  obtain ⟨bl, hbl⟩ : ∃ z : ByteArray, ⟨(Lib.itoa lo).toArray⟩ = z := ⟨_, rfl⟩
  obtain ⟨bh, hbh⟩ : ∃ z : ByteArray, ⟨(Lib.itoa hi).toArray⟩ = z := ⟨_, rfl⟩
  rw [hbl] at HL sl HEL
  rw [hbh] at HH sh HEH
  generalize Lib.itoa lo = tl at *
  generalize Lib.itoa hi = th at *
  clear hbl hbh hT h1 h2
  have e0 := cell_blk HX.out 0
  have e1 := cell_blk HX.out 1
  have e2 := cell_blk HX.out 2
  have e3 := cell_blk HX.out 3
  cases hl <;> cases hh
  · skip
    go_enter Tryd.func24, Tryd.ntmps24
    go_upto_region 1 with fail
    clear hw1 hbx
    go_wp2_with fail
    go_returns
    exact ⟨congrArg (fun z => Ending.returned (Value.string z)) ((span_bytes ⟨#[]⟩ ⟨#[]⟩ _ _ rfl rfl).trans (by first | rfl | simp)), KA.out⟩
  · skip
    go_enter Tryd.func24, Tryd.ntmps24
    go_upto_region 1 with fail
    clear hw1 hbx
    go_wp2_with fail
    (with_reducible refine (HH.out _ KA.out).mono ?_)
    rintro e w3 ⟨rfl, q⟩
    have KA := Lib.hid (KA.out.trans (q.mono KA.out.size))
    clear q e0 e1 e2 e3
    go_wp2_with fail
    go_returns
    exact ⟨congrArg (fun z => Ending.returned (Value.string z)) ((span_bytes ⟨#[]⟩ bh _ _ rfl HEH.out).trans (by first | rfl | simp)), KA.out⟩
  · skip
    go_enter Tryd.func24, Tryd.ntmps24
    go_upto_region 1 with fail
    clear hw1 hbx
    go_wp2_with fail
    (with_reducible refine (HL.out _ KA.out).mono ?_)
    rintro e w2 ⟨rfl, q⟩
    have HX := Lib.hid (blk_below HX.out q)
    have KA := Lib.hid (KA.out.trans (q.mono KA.out.size))
    clear q e0 e1 e2 e3
    have e0 := cell_blk HX.out 0
    have e1 := cell_blk HX.out 1
    have e2 := cell_blk HX.out 2
    have e3 := cell_blk HX.out 3
    go_wp2_with fail
    go_returns
    exact ⟨congrArg (fun z => Ending.returned (Value.string z)) ((span_bytes bl ⟨#[]⟩ _ _ HEL.out rfl).trans (by first | rfl | simp)), KA.out⟩
  · skip
    go_enter Tryd.func24, Tryd.ntmps24
    go_upto_region 1 with fail
    clear hw1 hbx
    go_wp2_with fail
    (with_reducible refine (HL.out _ KA.out).mono ?_)
    rintro e w2 ⟨rfl, q⟩
    have HX := Lib.hid (blk_below HX.out q)
    have KA := Lib.hid (KA.out.trans (q.mono KA.out.size))
    clear q e0 e1 e2 e3
    have e0 := cell_blk HX.out 0
    have e1 := cell_blk HX.out 1
    have e2 := cell_blk HX.out 2
    have e3 := cell_blk HX.out 3
    go_wp2_with fail
    (with_reducible refine (HH.out _ KA.out).mono ?_)
    rintro e w3 ⟨rfl, q⟩
    have KA := Lib.hid (KA.out.trans (q.mono KA.out.size))
    clear q e0 e1 e2 e3
    go_wp2_with fail
    go_returns
    exact ⟨congrArg (fun z => Ending.returned (Value.string z)) ((span_bytes bl bh _ _ HEL.out HEH.out).trans (by first | rfl | simp)), KA.out⟩
end Go.Proofs.YtimjendkpjojoaaDoor
