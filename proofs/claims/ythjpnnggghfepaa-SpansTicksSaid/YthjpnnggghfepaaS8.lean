/- Sets of spans of a call's own; contracts: of, is. -/
import Derived.Test.YthjpnnggghfepaaS7
import Derived.IntWalk
import Derived.Deep.AppendLies
import Derived.Deep.RegionLaw
namespace Go.Proofs.Ythjpnnggghfepaa
set_option linter.unusedVariables false
set_option linter.unusedSimpArgs false
open Go.ChangeShapes Go.WideShapes Go.ChangeAt Go.RowKit
theorem add_off (b p k : Nat) : (⟨b, p, none⟩ : Addr).add k = ⟨b, p + k, none⟩ := by unfold Addr.add; split <;> simp_all
def spCells : List Sp → List Value
  | [] => []
  | s :: r => .int .i64 s.1 :: .int .i64 s.2 :: spCells r
theorem spCells_length : ∀ l : List Sp, (spCells l).length = l.length * 2
  | [] => rfl
  | s :: r => by simp [spCells, spCells_length r]; omega
theorem spCells_snoc : ∀ (l : List Sp) (s : Sp), spCells (l ++ [s]) = spCells l ++ [.int .i64 s.1, .int .i64 s.2]
  | [], s => rfl
  | x :: r, s => by simp [spCells, spCells_snoc r]
theorem spCells_at : ∀ (l : List Sp) (i : Nat) (h : i < l.length), (spCells l)[i * 2]? = some (.int .i64 l[i].1) ∧ (spCells l)[i * 2 + 1]? = some (.int .i64 l[i].2)
  | s :: r, 0, h => ⟨rfl, rfl⟩
  | s :: r, i + 1, h => by
    have := spCells_at r i (by simpa using h)
    rw [show (i + 1) * 2 = i * 2 + 1 + 1 by omega]
    simpa [spCells] using this
theorem spCells_one : ∀ (l : List Sp), ∀ u ∈ spCells l, u.oneCell' = true
  | [], u, h => by cases h
  | s :: r, u, h => by
    simp only [spCells, List.mem_cons] at h
    rcases h with rfl | rfl | h
    · rfl
    · rfl
    · exact spCells_one r u h
theorem keepB {w w' : World} {B e s n : Nat} {v : Value} {xs : List Value} (h : w.ownsRow B e s v n xs) (b : Below w.heap.size w w') : w'.ownsRow B e s v n xs := by
  obtain ⟨h1, h2⟩ := h
  refine ⟨h1, ?_⟩
  rcases h2 with h2 | ⟨g, cap, cur, e1, e2, e3, e4⟩
  · exact .inl h2
  · have lt : g < w.heap.size := (Array.getElem?_eq_some_iff.1 e3).1
    exact .inr ⟨g, cap, cur, e1, e2, (b.block g lt).trans e3, e4⟩
/-- A slice of the call's own that reads as spans. -/
theorem own_sp {w : World} {B n : Nat} {v : Value} {l : List Sp} (hl : l.length = n) (h : w.ownsRow B 35 2 v n (spCells l)) : ∃ ao c, v = .slice ao n c ∧ SpAt w ao n c l := by
  have hc := h
  rcases h.2 with ⟨rfl, rfl⟩ | ⟨g, cap, cur, rfl, h2, h3, h4, h5, h6⟩
  · obtain rfl : l = [] := List.eq_nil_of_length_eq_zero hl
    exact ⟨none, 0, rfl, SpAt.nil w⟩
  · refine ⟨some ⟨g, 0, none⟩, cap, rfl, hl, h4, by unfold maxLen at h5; omega, (by intro e; cases e), fun _ => ⟨g, 0, rfl, fun i hi => ?_⟩⟩
    have e := spCells_at l i hi
    have z1 := hc.cells (g := g) rfl (i * 2) _ e.1
    have z2 := hc.cells (g := g) rfl (i * 2 + 1) _ e.2
    rw [add_off] at z1 z2
    exact ⟨z1, by rw [Nat.add_assoc]; exact z2⟩
theorem info35 : (Try.prog.info? 35).map (fun i => (i.zero, i.size, i.bytes)) = some (some (.agg #[.int .i64 0, .int .i64 0]), 2, 16) := by kernel_rfl
theorem cells_new2 (w : World) (x y : Value) (t : TypeId) : ∀ (j : Nat) (u : Value), [x, y][j]? = some u → (w.alloc (.cells #[x, y] t)).cell? ((⟨w.heap.size, 0, none⟩ : Addr).add j) = some u := by
  intro j u hu
  rw [add_off, Nat.zero_add]
  match j with
  | 0 => cases hu; exact (box_cells w x y t).1
  | 1 => cases hu; exact (box_cells w x y t).2
  | j + 2 => simp at hu
/-- Numbers as spans. -/
def ofL (f : Nat → Int) : Nat → List Sp
  | 0 => []
  | m + 1 => ofL f m ++ [(f (2 * m), f (2 * m + 1))]
theorem ofL_length (f : Nat → Int) : ∀ m, (ofL f m).length = m
  | 0 => rfl
  | m + 1 => by simp [ofL, ofL_length f m]
set_option maxHeartbeats 1000000 in
theorem of_any (b m c : Nat) (f : Nat → Int) (h0 : m ≤ 1000000) (w : World) (hw : ∀ i, i < 2 * m → w.cell? ⟨b, i, none⟩ = some (.int .i64 (f i))) (n : Nat) (hn : n = 2 * m) :
    Calls Try.prog 34 #[.slice (some ⟨b, 0, none⟩) n c] w fun e w' => ∃ ao k, e = .returned (.slice ao m k) ∧ Hid (SpAt w' ao m k (ofL f m)) ∧ Hid (Below w.heap.size w w') := by
  obtain ⟨i0, hi, hz0, hz1, hz2⟩ := info_parts info35
  have HI := Lib.hid hi
  have HZ0 := Lib.hid hz0
  have HZ1 := Lib.hid hz1
  have HZ2 := Lib.hid hz2
  have HW := Lib.hid hw
  clear hi hz0 hz1 hz2 hw
  go_enter Try.func34, Try.ntmps34
  go_wp2
  go_loopw [3, 4] (fun v ii wr => ∃ (k q : Nat), k ≤ m ∧ q = 2 * k ∧ ii = .int .i64 q ∧ Hid (wr.ownsRow w.heap.size 35 2 v k (spCells (ofL f k))) ∧ Hid (Below w.heap.size w wr)) (fun _ ii _ => n - (intOf ii).toNat)
  case atStart => exact ⟨0, 0, Nat.zero_le _, rfl, rfl, Lib.hid (World.ownsRow_nil _ _ _ _), Lib.hid (Below.refl _ _)⟩
  case round =>
    obtain ⟨k, q, hk, hq, rfl, HO, HB⟩ := hrel
    by_cases klt : k < m
    · have c1 := cell_keep (HW.out q (by omega)) HB.out
      have c2 := cell_keep (HW.out (q + 1) (by omega)) HB.out
      have HC : Hid (spCells (ofL f k) ++ [.int .i64 (f q), .int .i64 (f (q + 1))] = spCells (ofL f (k + 1))) := Lib.hid (by rw [ofL, spCells_snoc, hq])
      have q0 : (0 : Int) ≤ (q : Int) := by omega
      have q1 : (q : Int) < (n : Int) := by omega
      have q2 : (q : Int) + 1 < (n : Int) := by omega
      have q3 : (q : Int) ≤ 9000000000000000000 := by omega
      have HQ := Lib.hid (And.intro hq hn)
      obtain ⟨x, hx⟩ : ∃ z, f q = z := ⟨_, rfl⟩
      obtain ⟨y, hy⟩ : ∃ z, f (q + 1) = z := ⟨_, rfl⟩
      rw [hx] at c1 HC
      rw [hy] at c2 HC
      clear hx hy hq hn
      go_upto_region 5 with fail
      obtain ⟨Q, hQ⟩ : ∃ Q : Nat, q + 1 = Q := ⟨_, rfl⟩
      have e5 : IntKind.i64.wrap ((q : Int) + 1) = (Q : Int) := by rw [IntWalk.i64_in _ (by omega)]; omega
      have q5 : (0 : Int) ≤ (Q : Int) := by omega
      have q6 : (Q : Int) < (n : Int) := by omega
      rw [hQ] at c2
      clear hQ
      go_region_law (refine step_append_lies _ rfl _ _ 22 rfl w.heap.size 35 i0 (.agg #[.int .i64 0, .int .i64 0]) 2 16 Try.underlying22 HI.out HZ0.out HZ1.out HZ2.out rfl (by decide) u3 k _ rfl (keepB HO.out (((Below.refl _ wr).drew).alloc (Nat.le_refl _) _)) ⟨wr.heap.size, 0, none⟩ 1 1 [.int .i64 x, .int .i64 y] rfl rfl (cells_new2 wr.drew _ _ _) (by intro z hz; simp at hz; rcases hz with rfl | rfl <;> rfl) (by decide) (by unfold maxLen; omega) (by omega) (by have := HB.out.size; simp; omega) _ rfl ?_; intro g cap w1 hown hgrow hat hlt; rw [HC.out] at hown; have HO2 := Lib.hid hown; have HB2 := Lib.hid ((HB.out.trans ((((Below.refl _ wr).drew).alloc (Nat.le_refl _) _).mono HB.out.size)).grown hgrow (Nat.le_trans HB.out.size (by simp)) (fun q hq => (HO.out.lt q hq).1)); clear hown hgrow hat)
      all_goals
        go_wp2
        go_roundw
        case rel => exact ⟨k + 1, q + 2, by omega, by have := HQ.out.1; omega, by go_num, HO2, HB2⟩
        case measure => simp [intOf]; omega
    · obtain rfl : k = m := by omega
      obtain ⟨ao, cc, rfl, hs⟩ := own_sp (ofL_length f k) HO.out
      have HS := Lib.hid hs
      have q2 : ¬ (q : Int) + 1 < (n : Int) := by omega
      have q3 : (q : Int) ≤ 9000000000000000000 := by omega
      clear hs
      go_wp2
      go_returns
      exact ⟨ao, cc, rfl, HS, HB⟩
theorem is_any (ao : Option Addr) (n c b m cc : Nat) (l : List Sp) (f : Nat → Int) (h0 : m ≤ 1000000) (w : World) (hl : SpAt w ao n c l) (hw : ∀ i, i < 2 * m → w.cell? ⟨b, i, none⟩ = some (.int .i64 (f i))) (q : Nat) (hq : q = 2 * m) (r : Bool) (hr : r = true ↔ l = ofL f m) :
    Calls Try.prog 35 #[.slice ao n c, .slice (some ⟨b, 0, none⟩) q cc] w fun e w' => e = .returned (.bool r) ∧ Below w.heap.size w w' := by
  have O := Lib.hid (of_any b m cc f h0 w hw q hq)
  have HL := Lib.hid hl
  have HR := Lib.hid hr
  clear hl hw hq hr
  go_enter Try.func35, Try.ntmps35
  go_wp2_with (first
    | (go_at_call 34; (with_reducible refine (O.out).mono ?_); rintro e w1 ⟨bo, k, rfl, HS, HB⟩)
    | (go_at_call 13; (with_reducible refine (alike_any _ _ _ _ _ _ _ _ _ (HL.out.keep HB.out) HS.out r HR.out).mono ?_); rintro e w2 ⟨rfl, b2⟩; have HB2 := Lib.hid (HB.out.trans (b2.mono HB.out.size))))
  go_returns
  exact ⟨rfl, HB2.out⟩
end Go.Proofs.Ythjpnnggghfepaa
