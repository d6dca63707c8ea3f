/- Texts, Made, Named. -/
import Derived.Test.YtgealkflfmeicaaDoorE8
namespace Go.Proofs.YtgealkflfmeicaaDoor
set_option linter.unusedVariables false
set_option linter.unusedSimpArgs false
open Go.ChangeShapes Go.WideShapes Go.ChangeAt Go.RowKit
/-- A list of texts in memory. -/
structure StAt (w : World) (ao : Option Addr) (n c : Nat) (l : List ByteArray) : Prop where
  len : l.length = n
  le : n ≤ c
  top : c ≤ 9223372036854775807
  bare : ao = none → n = 0
  here : 0 < n → ∃ b, ao = some ⟨b, 0, none⟩ ∧ ∀ i (h : i < l.length), w.cell? ⟨b, i, none⟩ = some (.string l[i])
theorem StAt.keep {w w' : World} {ao : Option Addr} {n c : Nat} {l : List ByteArray} (h : StAt w ao n c l) (k : Below w.heap.size w w') : StAt w' ao n c l :=
  ⟨h.len, h.le, h.top, h.bare, fun h0 => by
    obtain ⟨b, e, hc⟩ := h.here h0
    exact ⟨b, e, fun i hi => cell_keep (hc i hi) k⟩⟩
theorem own_st {w : World} {B : Nat} {v : Value} {l : List ByteArray} (h : w.ownsRow B 9 1 v l.length (l.map Value.string)) : ∃ ao c, v = .slice ao l.length c ∧ StAt w ao l.length c l := by
  rcases h.2 with ⟨rfl, h0⟩ | ⟨g, cap, cur, rfl, _, hg, h1, h2, h3, h4⟩
  · rw [h0]
    exact ⟨none, 0, rfl, ⟨h0, Nat.le_refl _, Nat.zero_le _, fun _ => rfl, fun h => absurd h (Nat.lt_irrefl _)⟩⟩
  · refine ⟨some ⟨g, 0, none⟩, cap, rfl, ⟨rfl, h1, by unfold maxLen at h2; omega, (fun e => by cases e), fun h0 => ⟨g, rfl, fun i hi => ?_⟩⟩⟩
    rw [cell_blk hg]
    have e : cur[i]? = (cur.toList.take (l.length * 1))[i]? := by
      rw [List.getElem?_take_of_lt (by omega)]; simp
    rw [e, h4]
    simp [hi]
set_option maxHeartbeats 1000000 in
theorem texts_same (a b : Option Addr) (n c d : Nat) (l : List ByteArray) (w : World) (h1 : StAt w a n c l) (h2 : StAt w b n d l) :
    Calls Tryd.prog 20 #[.slice a n c, .slice b n d] w fun e w' => e = .returned (.bool true) ∧ Below w.heap.size w w' := by
  have H1 := Lib.hid h1
  have H2 := Lib.hid h2
  have n0 : (0 : Int) ≤ (n : Int) := by omega
  have n1 : (n : Int) ≤ 9223372036854775807 := by have := h1.le; have := h1.top; omega
  clear h1 h2
  go_enter Tryd.func20, Tryd.ntmps20
  go_upto_region 4 with fail
  go_loopw [5, 13] (fun s5 ii wr => ∃ j : Nat, j ≤ n ∧ ii = .int .i64 j ∧ Hid (Below w.heap.size w wr)) (fun s5 ii _ => n - (intOf ii).toNat)
  case atStart => exact ⟨0, Nat.zero_le _, rfl, Lib.hid (Below.refl _ _)⟩
  case round =>
    obtain ⟨j, hj, rfl, HB⟩ := hrel
    have i0 : (0 : Int) ≤ (j : Int) := by omega
    by_cases jlt : j < n
    · have i1 : (j : Int) < n := by omega
      obtain ⟨x, rfl, hx⟩ := H1.out.here (by omega)
      obtain ⟨y, rfl, hy⟩ := H2.out.here (by omega)
      have c1 := cell_keep (hx j (by rw [H1.out.len]; exact jlt)) HB.out
      have c2 := cell_keep (hy j (by rw [H1.out.len]; exact jlt)) HB.out
      obtain ⟨s, hs⟩ : ∃ s, l[j]'(by rw [H1.out.len]; exact jlt) = s := ⟨_, rfl⟩
      rw [hs] at c1 c2
      clear hx hy hs
      have HB2 := Lib.hid (HB.out.trans ((Below.refl _ wr).drew.mono HB.out.size))
      go_upto_region 6 with fail
      go_region
      clear c1 c2
      go_wp2
      go_roundw
      case rel => exact ⟨j + 1, by omega, by go_num, HB2⟩
      case measure => simp [intOf]; omega
    · obtain rfl : j = n := by omega
      go_wp2
      go_returns
      exact ⟨rfl, HB.out⟩
set_option maxHeartbeats 1000000 in
theorem made_any (o : Int) (nu ar : Value) (w : World) (an aa : Option Addr) (nn nc na ac : Nat) (h1 : nu = .slice an nn nc) (h2 : ar = .slice aa na ac) :
    Calls Tryd.prog 24 #[.int .u8 o, nu, ar] w fun e w' => e = .returned (.agg #[.int .u8 o, .string ⟨#[]⟩, nu, ar]) ∧ Below w.heap.size w w' := by
  subst h1 h2
  go_enter Tryd.func24, Tryd.ntmps24
  go_wp2
  obtain ⟨b, hb⟩ : ∃ z, w.heap.size = z := ⟨_, rfl⟩
  obtain ⟨w1, hw1⟩ : ∃ z, w.alloc (.cells #[.int .u8 o, .string ⟨#[]⟩, .slice an nn nc, .slice aa na ac] 25) = z := ⟨_, rfl⟩
  have KA : Below w.heap.size w w1 := by rw [← hw1]; exact (Below.refl _ w).alloc (Nat.le_refl _) _
  have HX : w1.heap[b]? = some (.cells #[.int .u8 o, .string ⟨#[]⟩, .slice an nn nc, .slice aa na ac] 25 (0, 0)) := by rw [← hw1, ← hb, al_new]
  have r0 := cell_blk HX 0
  have r1 := cell_blk HX 1
  have r2 := cell_blk HX 2
  have r3 := cell_blk HX 3
  rw [hw1, hb]
  exact bodyPost_ret (v := .agg #[.int .u8 o, .string ⟨#[]⟩, .slice an nn nc, .slice aa na ac]) (by simp [results, Tryd.results24, go_sem, r0, r1, r2, r3]) rfl ⟨rfl, hb ▸ KA⟩
set_option maxHeartbeats 1000000 in
theorem named_any (s : ByteArray) (w : World) :
    Calls Tryd.prog 25 #[.string s] w fun e w' => e = .returned (.agg #[.int .u8 0, .string s, .slice none 0 0, .slice none 0 0]) ∧ Below w.heap.size w w' := by
  go_enter Tryd.func25, Tryd.ntmps25
  go_wp2
  obtain ⟨b, hb⟩ : ∃ z, w.heap.size = z := ⟨_, rfl⟩
  obtain ⟨w1, hw1⟩ : ∃ z, w.alloc (.cells #[.int .u8 0, .string s, .slice none 0 0, .slice none 0 0] 25) = z := ⟨_, rfl⟩
  have KA : Below w.heap.size w w1 := by rw [← hw1]; exact (Below.refl _ w).alloc (Nat.le_refl _) _
  have HX : w1.heap[b]? = some (.cells #[.int .u8 0, .string s, .slice none 0 0, .slice none 0 0] 25 (0, 0)) := by rw [← hw1, ← hb, al_new]
  have r0 := cell_blk HX 0
  have r1 := cell_blk HX 1
  have r2 := cell_blk HX 2
  have r3 := cell_blk HX 3
  rw [hw1, hb]
  exact bodyPost_ret (v := .agg #[.int .u8 0, .string s, .slice none 0 0, .slice none 0 0]) (by simp [results, Tryd.results25, go_sem, r0, r1, r2, r3]) rfl ⟨rfl, hb ▸ KA⟩
end Go.Proofs.YtgealkflfmeicaaDoor
