/- Texts, Made, Named. -/
import Derived.Test.YtimjendkpjojoaaDoorV4
namespace Go.Proofs.YtimjendkpjojoaaDoor
set_option linter.unusedVariables false
set_option linter.unusedSimpArgs false
open Go.ChangeShapes Go.WideShapes Go.ChangeAt Go.RowKit
/-- A list of texts in memory. -/
structure StAt (w : World) (ao : Option Addr) (n c : Nat) (l : List ByteArray) : Prop where
  len : l.length = n
  le : n ≤ c
  top : c ≤ 9223372036854775807
  bare : ao = none → n = 0
  here : 0 < n → ∃ b, ao = some ⟨b, 0, none⟩ ∧ ∀ i (h : i < l.length), w.cell? ⟨b, i, none⟩ = some (.string l[i])
theorem StAt.keep {w w' : World} {ao : Option Addr} {n c : Nat} {l : List ByteArray} (h : StAt w ao n c l) (k : Below w.heap.size w w') : StAt w' ao n c l :=
  ⟨h.len, h.le, h.top, h.bare, fun h0 => by
    obtain ⟨b, e, hc⟩ := h.here h0
    exact ⟨b, e, fun i hi => cell_keep (hc i hi) k⟩⟩
theorem own_st {w : World} {B : Nat} {v : Value} {l : List ByteArray} (h : w.ownsRow B 9 1 v l.length (l.map Value.string)) : ∃ ao c, v = .slice ao l.length c ∧ StAt w ao l.length c l := by
  rcases h.2 with ⟨rfl, h0⟩ | ⟨g, cap, cur, rfl, _, hg, h1, h2, h3, h4⟩
  · rw [h0]
    exact ⟨none, 0, rfl, ⟨h0, Nat.le_refl _, Nat.zero_le _, fun _ => rfl, fun h => absurd h (Nat.lt_irrefl _)⟩⟩
  · refine ⟨some ⟨g, 0, none⟩, cap, rfl, ⟨rfl, h1, by unfold maxLen at h2; omega, (fun e => by cases e), fun h0 => ⟨g, rfl, fun i hi => ?_⟩⟩⟩
    rw [cell_blk hg]
    have e : cur[i]? = (cur.toList.take (l.length * 1))[i]? := by
      rw [List.getElem?_take_of_lt (by omega)]; simp
    rw [e, h4]
    simp [hi]
set_option maxHeartbeats 1000000 in
theorem made_any (o : Int) (nu ar : Value) (w : World) (an aa : Option Addr) (nn nc na ac : Nat) (h1 : nu = .slice an nn nc) (h2 : ar = .slice aa na ac) :
    Calls Tryd.prog 15 #[.int .u8 o, nu, ar] w fun e w' => e = .returned (.agg #[.int .u8 o, .string ⟨#[]⟩, nu, ar]) ∧ Below w.heap.size w w' := by
  subst h1 h2
  go_enter Tryd.func15, Tryd.ntmps15
  go_wp2
  obtain ⟨b, hb⟩ : ∃ z, w.heap.size = z := ⟨_, rfl⟩
  obtain ⟨w1, hw1⟩ : ∃ z, w.alloc (.cells #[.int .u8 o, .string ⟨#[]⟩, .slice an nn nc, .slice aa na ac] 25) = z := ⟨_, rfl⟩
  have KA : Below w.heap.size w w1 := by rw [← hw1]; exact (Below.refl _ w).alloc (Nat.le_refl _) _
  have HX : w1.heap[b]? = some (.cells #[.int .u8 o, .string ⟨#[]⟩, .slice an nn nc, .slice aa na ac] 25 (0, 0)) := by rw [← hw1, ← hb, al_new]
  have r0 := cell_blk HX 0
  have r1 := cell_blk HX 1
  have r2 := cell_blk HX 2
  have r3 := cell_blk HX 3
  rw [hw1, hb]
  exact bodyPost_ret (v := .agg #[.int .u8 o, .string ⟨#[]⟩, .slice an nn nc, .slice aa na ac]) (by simp [results, Tryd.results15, go_sem, r0, r1, r2, r3]) rfl ⟨rfl, hb ▸ KA⟩
set_option maxHeartbeats 1000000 in
theorem named_any (s : ByteArray) (w : World) :
    Calls Tryd.prog 16 #[.string s] w fun e w' => e = .returned (.agg #[.int .u8 0, .string s, .slice none 0 0, .slice none 0 0]) ∧ Below w.heap.size w w' := by
  go_enter Tryd.func16, Tryd.ntmps16
  go_wp2
  obtain ⟨b, hb⟩ : ∃ z, w.heap.size = z := ⟨_, rfl⟩
  obtain ⟨w1, hw1⟩ : ∃ z, w.alloc (.cells #[.int .u8 0, .string s, .slice none 0 0, .slice none 0 0] 25) = z := ⟨_, rfl⟩
  have KA : Below w.heap.size w w1 := by rw [← hw1]; exact (Below.refl _ w).alloc (Nat.le_refl _) _
  have HX : w1.heap[b]? = some (.cells #[.int .u8 0, .string s, .slice none 0 0, .slice none 0 0] 25 (0, 0)) := by rw [← hw1, ← hb, al_new]
  have r0 := cell_blk HX 0
  have r1 := cell_blk HX 1
  have r2 := cell_blk HX 2
  have r3 := cell_blk HX 3
  rw [hw1, hb]
  exact bodyPost_ret (v := .agg #[.int .u8 0, .string s, .slice none 0 0, .slice none 0 0]) (by simp [results, Tryd.results16, go_sem, r0, r1, r2, r3]) rfl ⟨rfl, hb ▸ KA⟩
end Go.Proofs.YtimjendkpjojoaaDoor
