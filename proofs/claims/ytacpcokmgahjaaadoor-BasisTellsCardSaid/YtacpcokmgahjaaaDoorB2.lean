/- start, months, made, Names of basis. -/
import Derived.Test.YtacpcokmgahjaaaDoorCv3
import Derived.Test.YtacpcokmgahjaaaDoorG9
import Derived.Test.YtacpcokmgahjaaaDoorG11
import Derived.Laws.OwnMore
import Derived.Deep.RegionHeld3
namespace Go.Proofs.YtacpcokmgahjaaaDoor
set_option linter.unusedVariables false
set_option linter.unusedSimpArgs false
open Go.ChangeShapes Go.WideShapes Go.ChangeAt Go.RowKit
/-- The first day of a month of 400 years from 1970 on. -/
def dayS (m : Int) : Int := Cal.num (1970 + m / 12) (m % 12 + 1) 1
theorem start_m (m : Int) (w : World) (hT : Tab w) (h0 : 0 ≤ m) (h1 : m ≤ 4800) :
    Calls Tryd.prog 107 #[.int .i64 m] w fun e w' => e = .returned (.int .i64 (dayS m)) ∧ w = w' := by
  have hl := Cal.len_bd (1970 + m / 12) (m % 12 + 1) (by omega) (by omega)
  have HD := Lib.hid (days_ok (1970 + m / 12) (m % 12 + 1) 1 w hT (by omega) (by omega) (by omega) (by omega))
  have q1 : Int.tdiv m 12 = m / 12 := Int.tdiv_eq_ediv_of_nonneg h0
  have q2 : Int.tmod m 12 = m % 12 := Int.tmod_eq_emod_of_nonneg h0
  obtain ⟨x, hx⟩ : ∃ x, m / 12 = x := ⟨_, rfl⟩
  obtain ⟨y, hy⟩ : ∃ y, m % 12 = y := ⟨_, rfl⟩
  have x0 : 0 ≤ x := by omega
  have x1 : x ≤ 400 := by omega
  have y0 : 0 ≤ y := by omega
  have y1 : y ≤ 11 := by omega
  have HR : Hid (Cal.num (1970 + x) (y + 1) 1 = dayS m) := Lib.hid (by unfold dayS; rw [hx, hy])
  rw [hx] at HD q1
  rw [hy] at HD q2
  clear hl hx hy hT
  go_enter Tryd.func107, Tryd.ntmps107
  go_wp2_with fail
  (with_reducible refine HD.out.mono ?_)
  rintro e w2 ⟨rfl, rfl⟩
  go_wp2
  go_returns
  exact ⟨ret_int HR.out, rfl⟩
/-- The cores of the forms of months. -/
def monC (n k : Nat) : List (List Sp) := (List.range k).map (fun i => [(dayS ((i * n : Nat) : Int), dayS ((i * n + n : Nat) : Int) - 1)])
theorem monC_len (n k : Nat) : (monC n k).length = k := by simp [monC]
theorem monC_at {n k i : Nat} (h : i < (monC n k).length) : (monC n k)[i] = [(dayS ((i * n : Nat) : Int), dayS ((i * n + n : Nat) : Int) - 1)] := by simp [monC]
theorem cell_blk {w : World} {b : Nat} {c : Array Value} {t : TypeId} (h : w.heap[b]? = some (.cells c t (0, 0))) (k : Nat) : w.cell? ⟨b, k, none⟩ = c[k]? := by
  unfold World.cell?; rw [h]; rfl
/-- One set in a block. -/
theorem sp_one {w : World} {g : Nat} {a b : Int} {t : TypeId} (h : w.heap[g]? = some (.cells #[.int .i64 a, .int .i64 b] t (0, 0))) : SpAt w (some ⟨g, 0, none⟩) 1 1 [(a, b)] := by
  have c0 : w.cell? ⟨g, 0, none⟩ = some (.int .i64 a) := by unfold World.cell?; rw [h]; rfl
  have c1 : w.cell? ⟨g, 1, none⟩ = some (.int .i64 b) := by unfold World.cell?; rw [h]; rfl
  refine ⟨rfl, Nat.le_refl _, by omega, (fun h => by cases h), fun _ => ⟨g, 0, rfl, fun i hi => ?_⟩⟩
  have : i = 0 := by simp at hi; omega
  subst this
  exact ⟨c0, c1⟩
theorem dayS_bd {m : Int} (h0 : 0 ≤ m) (h1 : m ≤ 4800) : 0 ≤ dayS m ∧ dayS m ≤ 146097 := by
  have hb := Cal.bef_bd (1970 + m / 12) (m % 12 + 1) (by omega) (by omega)
  have hm := Cal.bef_mono (1970 + m / 12)
  unfold dayS Cal.num
  have e : Cal.start 1970 = 0 := by decide
  have e2 : Cal.start 2370 = 146097 := by decide
  have s0 := Cal.start_mono 1970 (1970 + m / 12) (by omega)
  by_cases z : m = 4800
  · subst z
    have : Cal.bef (1970 + 4800 / 12) (4800 % 12 + 1) = 0 := by
      have := Cal.bef_one (1970 + 4800 / 12); simpa using this
    have h2 : Cal.start (1970 + 4800 / 12) = 146097 := by simpa using e2
    omega
  · have s1 := Cal.start_mono (1970 + m / 12 + 1) 2370 (by omega)
    have s2 := Cal.start_succ (1970 + m / 12)
    have s3 := Cal.bef_last (1970 + m / 12)
    have s4 := hm (m % 12 + 1) 13 (by omega) (by omega) (by omega)
    omega
/-- The core under way: the first i sets lie there. -/
structure MonAt (B : Nat) (n k : Nat) (w : World) (g : Nat) (i : Nat) : Prop where
  row : ∃ cur : Array Value, w.heap[g]? = some (.cells cur 38 (0, 0)) ∧ cur.size = k ∧ ∀ j, j < i → ∃ h, cur[j]? = some (.slice (some ⟨h, 0, none⟩) 1 1) ∧ B ≤ h ∧ h ≠ g ∧ w.heap[h]? = some (.cells #[.int .i64 (dayS ((j * n : Nat) : Int)), .int .i64 (dayS ((j * n + n : Nat) : Int) - 1)] 42 (0, 0))
theorem MonAt.keep {B n k g i : Nat} {w w' : World} (h : MonAt B n k w g i) (q : Below w.heap.size w w') : MonAt B n k w' g i := by
  obtain ⟨cur, a, b, c⟩ := h.row
  refine ⟨cur, (q.block g (Array.getElem?_eq_some_iff.1 a).1).trans a, b, fun j hj => ?_⟩
  obtain ⟨h, d, e, e2, f⟩ := c j hj
  exact ⟨h, d, e, e2, (q.block h (Array.getElem?_eq_some_iff.1 f).1).trans f⟩
theorem MonAt.put {B n k g i h : Nat} {w : World} (m : MonAt B n k w g i) (hi : i < k) (hB : B ≤ h) (hg : h ≠ g) (hh : w.heap[h]? = some (.cells #[.int .i64 (dayS ((i * n : Nat) : Int)), .int .i64 (dayS ((i * n + n : Nat) : Int) - 1)] 42 (0, 0))) : MonAt B n k (w.setCell ⟨g, i, none⟩ (.slice (some ⟨h, 0, none⟩) 1 1)) g (i + 1) := by
  obtain ⟨cur, a, b, c⟩ := m.row
  refine ⟨cur.setIfInBounds i (.slice (some ⟨h, 0, none⟩) 1 1), set_block a i _, by simp [b], fun j hj => ?_⟩
  by_cases z : j = i
  · subst z
    exact ⟨h, by rw [Array.getElem?_setIfInBounds_self_of_lt (by omega)], hB, hg, (Below.heap_setCell _ _ _ _ (by intro e; exact hg e)).trans hh⟩
  · obtain ⟨h', d, e, e2, f⟩ := c j (by omega)
    exact ⟨h', by rw [Array.getElem?_setIfInBounds_ne (by omega)]; exact d, e, e2, (Below.heap_setCell _ _ _ _ (by intro e; exact e2 e)).trans f⟩
theorem MonAt.co {B n k g : Nat} {w : World} (m : MonAt B n k w g k) (hk : k ≤ 4800) : CoAt w (some ⟨g, 0, none⟩) k k (monC n k) := by
  obtain ⟨cur, a, b, c⟩ := m.row
  refine ⟨monC_len n k, Nat.le_refl _, by omega, (fun h => by cases h), fun _ => ⟨g, 0, rfl, fun i hi => ?_⟩⟩
  rw [monC_len] at hi
  obtain ⟨h, d, e, e2, f⟩ := c i hi
  refine ⟨some ⟨h, 0, none⟩, 1, 1, ?_, ?_⟩
  · have := cell_blk a i
    rw [Nat.zero_add, this]; exact d
  · rw [monC_at]; exact sp_one f
end Go.Proofs.YtacpcokmgahjaaaDoor
