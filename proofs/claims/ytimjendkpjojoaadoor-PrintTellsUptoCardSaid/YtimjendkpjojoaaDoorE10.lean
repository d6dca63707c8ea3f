/- The chapter's examples (awake). -/
import Derived.Test.YtimjendkpjojoaaDoorE9
namespace Go.Proofs.YtimjendkpjojoaaDoor
set_option linter.unusedVariables false
set_option linter.unusedSimpArgs false
open Go.ChangeShapes Go.WideShapes Go.ChangeAt Go.RowKit
/-- A part without numbers of its own. -/
def pt0 (o : Int) (s : ByteArray) (nums : List Int) (k : Nat) : Pt := ⟨o, s, nums, k⟩
theorem nat_nil (w : World) : NAt w none 0 0 [] := ⟨rfl, Nat.le_refl _, Nat.zero_le _, fun _ => ⟨rfl, rfl⟩, fun h => absurd h (Nat.lt_irrefl _)⟩
/-- A name. -/
theorem ex_name (w : World) (o : Int) (s : ByteArray) (h0 : 0 ≤ o) (h1 : o ≤ 255) (hs : s.size ≤ maxLen) : ExAt w 1 (.agg #[.int .u8 o, .string s, .slice none 0 0, .slice none 0 0]) (fun d => [(pt0 o s [] 0, d)]) :=
  ⟨pt0 o s [] 0, none, 0, 0, none, 0, [], rfl, ⟨h0, h1, hs, nat_nil w, Nat.le_refl _, Nat.zero_le _, fun _ => ⟨rfl, rfl⟩⟩, rfl, rfl, fun h => absurd h (Nat.lt_irrefl _)⟩
/-- An operator over one. -/
theorem ex_one {w : World} {n : Nat} {o : Int} {an : Option Addr} {nn nc : Nat} {nums : List Int} (h0 : 0 ≤ o) (h1 : o ≤ 255) (hn : NAt w an nn nc nums) {b : Nat} {x0 x1 x2 x3 : Value} {F : Tour} (hb : w.heap[b]? = some (.cells #[x0, x1, x2, x3] 25 (0, 0))) (hx : ExAt w n (.agg #[x0, x1, x2, x3]) F) :
    ExAt w (n + 1) (.agg #[.int .u8 o, .string ⟨#[]⟩, .slice an nn nc, .slice (some ⟨b, 0, none⟩) 1 1]) (fun d => (pt0 o ⟨#[]⟩ nums 1, d) :: F (d + 1)) := by
  refine ⟨pt0 o ⟨#[]⟩ nums 1, an, nn, nc, some ⟨b, 0, none⟩, 1, [F], rfl, ⟨h0, h1, Nat.zero_le _, hn, Nat.le_refl _, by omega, fun e => by cases e⟩, rfl, funext fun d => by simp [flat], fun _ => ⟨b, 0, rfl, fun i hi => ?_⟩⟩
  have : i = 0 := by simp at hi; omega
  subst this
  exact ⟨x0, x1, x2, x3, cell_blk hb 0, cell_blk hb 1, cell_blk hb 2, cell_blk hb 3, hx⟩
/-- An operator over two. -/
theorem ex_two {w : World} {n : Nat} {o : Int} {an : Option Addr} {nn nc : Nat} {nums : List Int} (h0 : 0 ≤ o) (h1 : o ≤ 255) (hn : NAt w an nn nc nums) {b : Nat} {x0 x1 x2 x3 y0 y1 y2 y3 : Value} {F G : Tour} (hb : w.heap[b]? = some (.cells #[x0, x1, x2, x3, y0, y1, y2, y3] 25 (0, 0))) (hx : ExAt w n (.agg #[x0, x1, x2, x3]) F) (hy : ExAt w n (.agg #[y0, y1, y2, y3]) G) :
    ExAt w (n + 1) (.agg #[.int .u8 o, .string ⟨#[]⟩, .slice an nn nc, .slice (some ⟨b, 0, none⟩) 2 2]) (fun d => (pt0 o ⟨#[]⟩ nums 2, d) :: (F (d + 1) ++ G (d + 1))) := by
  refine ⟨pt0 o ⟨#[]⟩ nums 2, an, nn, nc, some ⟨b, 0, none⟩, 2, [F, G], rfl, ⟨h0, h1, Nat.zero_le _, hn, Nat.le_refl _, by omega, fun e => by cases e⟩, rfl, funext fun d => by simp [flat], fun _ => ⟨b, 0, rfl, fun i hi => ?_⟩⟩
  have : i = 0 ∨ i = 1 := by simp at hi; omega
  rcases this with rfl | rfl
  · exact ⟨x0, x1, x2, x3, cell_blk hb 0, cell_blk hb 1, cell_blk hb 2, cell_blk hb 3, hx⟩
  · exact ⟨y0, y1, y2, y3, cell_blk hb 4, cell_blk hb 5, cell_blk hb 6, cell_blk hb 7, hy⟩
theorem day_right : RName ⟨#[100, 97, 121]⟩ := by
  refine ⟨by decide, by decide, by decide, fun i hi => ?_⟩
  have : i = 0 ∨ i = 1 ∨ i = 2 := by have : i < 3 := hi; omega
  rcases this with rfl | rfl | rfl
  · exact .inr (.inr (.inl ⟨by show (97 : Int) ≤ ((100 : UInt8).toNat : Int); decide, by show ((100 : UInt8).toNat : Int) ≤ 122; decide⟩))
  · exact .inr (.inr (.inl ⟨by show (97 : Int) ≤ ((97 : UInt8).toNat : Int); decide, by show ((97 : UInt8).toNat : Int) ≤ 122; decide⟩))
  · exact .inr (.inr (.inl ⟨by show (97 : Int) ≤ ((121 : UInt8).toNat : Int); decide, by show ((121 : UInt8).toNat : Int) ≤ 122; decide⟩))
theorem day_ne : ¬ (⟨#[100, 97, 121]⟩ : ByteArray) = ⟨#[]⟩ := by decide
end Go.Proofs.YtimjendkpjojoaaDoor
