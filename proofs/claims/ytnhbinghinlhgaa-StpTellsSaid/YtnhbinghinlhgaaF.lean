/- Contracts: New. -/
import Derived.Test.YtnhbinghinlhgaaE
namespace Go.Proofs.Ytnhbinghinlhgaa
set_option linter.unusedVariables false
set_option linter.unusedSimpArgs false
open Go.ChangeShapes Go.WideShapes Go.ChangeAt Go.RowKit

/-- The network in which nothing is said. -/
def fresh : Mat := fun i j => if i = j then some 0 else none
/-- It, row i made up to j. -/
def mixN (i j : Nat) : Mat := fun a d => if a < i then fresh a d else if d < j then fresh a d else some 0

theorem zero_cells {w : World} {B g n cap : Nat} (h : w.ownsRow B 26 2 (.slice (some ⟨g, 0, none⟩) n cap) n (madeCells (Value.agg #[.int .i8 0, .int .i64 0]).cells (n * 2)).toList) :
    RowAt w g 0 n (fun _ => some 0) ∧ B ≤ g ∧ g < w.heap.size ∧ n ≤ cap ∧ cap ≤ 9223372036854775807 ∧ ∀ k, w.frozen? ⟨g, k, none⟩ = false := by
  have e : (madeCells (Value.agg #[.int .i8 0, .int .i64 0]).cells (n * 2)).toList = rowCells (fun _ => some 0) n := by
    apply List.ext_getElem?
    intro k
    by_cases hk : k < n * 2
    · rcases (show (∃ m, m < n ∧ k = m * 2) ∨ (∃ m, m < n ∧ k = m * 2 + 1) from by
        rcases (show k = (k / 2) * 2 ∨ k = (k / 2) * 2 + 1 by omega) with q | q
        · exact .inl ⟨k / 2, by omega, q⟩
        · exact .inr ⟨k / 2, by omega, q⟩) with ⟨m, hm, rfl⟩ | ⟨m, hm, rfl⟩
      · rw [rowCells_inf _ n m hm, List.getElem?_eq_getElem (by simp [size_madeCells]; exact hm)]
        simp [madeCells, Value.cells, infOf]
      · rw [rowCells_num _ n m hm, List.getElem?_eq_getElem (by simp [size_madeCells]; omega)]
        simp [madeCells, Value.cells, numOf, Nat.mul_add_mod]
    · rw [List.getElem?_eq_none (by simp [size_madeCells]; omega), List.getElem?_eq_none (by rw [rowCells_length]; omega)]
  rw [e] at h
  exact row_own h

theorem RowAt.ext {w : World} {b p n : Nat} {r r' : Nat → Bd} (h : RowAt w b p n r) (e : ∀ j, j < n → r j = r' j) : RowAt w b p n r' :=
  ⟨fun j hj => by rw [← e j hj]; exact h.inf j hj, fun j hj => by rw [← e j hj]; exact h.num j hj⟩
theorem Part.ext {w wr : World} {n i : Nat} {M N : Mat} (h : Part w wr n i M) (e : ∀ a d, a < i → d < n → M a d = N a d) : Part w wr n i N := by
  obtain ⟨b, c, h1, h2, h3, h4, h5⟩ := h
  exact ⟨b, c, h1, h2, h3, fun t ht => ⟨(h4 t ht).1, (h4 t ht).2.1.ext (fun j hj => e t j ht hj), (h4 t ht).2.2⟩, h5⟩
theorem RowAt.setInf {w : World} {b p n j : Nat} {r : Nat → Bd} (h : RowAt w b p n r) (hj : j < n) (e : r j = some 0) : RowAt (w.setCell ⟨b, p + j * 2, none⟩ (.int .i8 1)) b p n (fun d => if d = j then none else r d) := by
  refine ⟨fun s hs => ?_, fun s hs => ?_⟩
  · have o := h.inf s hs
    by_cases q : s = j
    · subst q
      rw [if_pos rfl]
      exact cell_same o
    · rw [if_neg q, cell_other (fun x => q (by have := (addr_eq x).2; omega))]
      exact o
  · have o := h.num s hs
    rw [cell_other (fun x => by have := (addr_eq x).2; omega), o]
    by_cases q : s = j
    · subst q
      rw [if_pos rfl, e]; rfl
    · rw [if_neg q]
/-- A bound of a row is none. -/
theorem Part.setInf {w wr : World} {n m i j : Nat} {M : Mat} {b c : Nat → Nat} (h : (∀ t, t < m → wr.cell? ⟨w.heap.size, t, none⟩ = some (.slice (some ⟨b t, 0, none⟩) n (c t))) ∧
  (∀ t, t < n → ∃ v, wr.cell? ⟨w.heap.size, t, none⟩ = some v) ∧ (∀ t, wr.frozen? ⟨w.heap.size, t, none⟩ = false) ∧
  (∀ t, t < m → (n ≤ c t ∧ c t ≤ 9223372036854775807) ∧ RowAt wr (b t) 0 n (M t) ∧ w.heap.size < b t ∧ b t < wr.heap.size ∧ ∀ k, wr.frozen? ⟨b t, k, none⟩ = false) ∧
  (∀ s t, s < m → t < m → b s = b t → s = t) ∧ Below w.heap.size w wr ∧ w.heap.size < wr.heap.size) (hi : i < m) (hj : j < n) (e : M i j = some 0) :
    Part w (wr.setCell ⟨b i, 0 + j * 2, none⟩ (.int .i8 1)) n m (upd M i j none) := by
  obtain ⟨h1, h2, h3, h4, h5, h6, h7⟩ := h
  have sz : (wr.setCell ⟨b i, 0 + j * 2, none⟩ (.int .i8 1)).heap.size = wr.heap.size := by simp [World.setCell]
  have lo := (h4 i hi).2.2.1
  refine ⟨b, c, fun t ht => ?_, fun t ht => ?_, fun t => ?_, fun t ht => ?_, h5, ?_, by rw [sz]; exact h7⟩
  · rw [cell_other (fun x => by have := (addr_eq x).1; omega)]
    exact h1 t ht
  · obtain ⟨v, hv⟩ := h2 t ht
    exact ⟨v, by rw [cell_other (fun x => by have := (addr_eq x).1; omega)]; exact hv⟩
  · rw [World.frozen?_setCell]; exact h3 t
  · obtain ⟨q1, q2, q3, q4, q5⟩ := h4 t ht
    refine ⟨q1, ?_, q3, by rw [sz]; exact q4, fun k => by rw [World.frozen?_setCell]; exact q5 k⟩
    by_cases q : t = i
    · subst q
      refine (q2.setInf hj e).ext fun d hd => ?_
      unfold upd
      by_cases z : d = j
      · rw [if_pos z, if_pos ⟨rfl, z⟩]
      · rw [if_neg z, if_neg (fun x => z x.2)]
    · refine (q2.set_far _ _ _ (fun x => q (h5 t i ht hi x))).ext fun d hd => ?_
      unfold upd
      rw [if_neg (fun x => q x.1)]
  · exact h6.setCell (p := ⟨b i, 0 + j * 2, none⟩) (Nat.le_of_lt lo) _

set_option maxRecDepth 100000 in
set_option maxHeartbeats 4000000 in
theorem new_net (n : Nat) (h0 : 0 < n) (hn : n ≤ 24) (w : World) :
    Calls Try.prog 9 #[.int .i64 n] w fun e w' => MadeOk w w' n fresh e := by
  obtain ⟨i0, hi, hz0, hz1, hz2⟩ := info_parts info30
  have HI := Lib.hid hi
  have HZ0 := Lib.hid hz0
  have HZ1 := Lib.hid hz1
  have HZ2 := Lib.hid hz2
  clear hi hz0 hz1 hz2
  obtain ⟨i1, hi, hz0, hz1, hz2⟩ := info_parts info26
  have HJ := Lib.hid hi
  have HY0 := Lib.hid hz0
  have HY1 := Lib.hid hz1
  have HY2 := Lib.hid hz2
  clear hi hz0 hz1 hz2
  have t1 : ¬ (n : Int) < 0 := by omega
  have t2 : ¬ (24 : Int) < (n : Int) := by omega
  go_enter Try.func9, Try.ntmps9
  go_wp2_with (first
    | (at_make; refine wpList_make_full _ rfl _ _ 22 rfl w.heap.size 30 i0 (.slice none 0 0) 1 Try.underlying22 HI.out HZ0.out HZ1.out .i64 .i64 _ _ n rfl rfl rfl rfl (by rw [HZ2.out]; omega) (by unfold maxLen; omega) (Nat.le_refl _) ?_; intro w1 hown hgro; have HP := Lib.hid (part_zero (M := fresh) hown hgro); clear hown hgro))
  go_loopw [16] (fun ii wr => ∃ i : Nat, i ≤ n ∧ ii = .int .i64 i ∧ Hid (Part w wr n i fresh)) (fun ii _ => n - (intOf ii).toNat)
  case atStart => exact ⟨0, Nat.zero_le _, rfl, HP⟩
  case round =>
    clear HP
    obtain ⟨i, hi, rfl, HP⟩ := hrel
    by_cases hlt : i < n
    · have hs : w.heap.size < wr.heap.size := by obtain ⟨_, _, _, _, _, _, _, _, h⟩ := HP.out; exact h
      have ho : ∃ v, wr.cell? ⟨w.heap.size, i, none⟩ = some v := by obtain ⟨_, _, _, h, _⟩ := HP.out; exact h i hlt
      have hf : wr.frozen? ⟨w.heap.size, i, none⟩ = false := by obtain ⟨_, _, _, _, h, _⟩ := HP.out; exact h i
      obtain ⟨v, ho⟩ := ho
      obtain ⟨wo, rfl⟩ : ∃ wo : World, wo = wr := ⟨_, rfl⟩
      go_wp2_with (first
        | (at_make; refine wpList_make_full _ rfl _ _ 30 rfl wo.heap.size 26 i1 (.agg #[.int .i8 0, .int .i64 0]) 2 Try.underlying30 HJ.out HY0.out HY1.out .i64 .i64 _ _ n rfl rfl rfl rfl (by rw [HY2.out]; omega) (by unfold maxLen; omega) (Nat.le_refl _) ?_; intro w2 hown hgro; have b2 : Below wo.heap.size wo w2 := (Below.refl _ wo).grown hgro (Nat.le_refl _) (fun k hk => by cases hk); have ho2 := cell_keep ho b2; have hf2 := (b2.frozen (p := ⟨w.heap.size, i, none⟩) hs).trans hf; have HN := Lib.hid (part_step (M := mixN i 0) (HP.out.ext (fun a d ha hd => (if_pos ha).symm)) hlt wo.heap.size n b2 (by have z := zero_cells hown; exact ⟨z.1.ext (fun d hd => (show mixN i 0 i d = some 0 by unfold mixN; rw [if_neg (Nat.lt_irrefl i), if_neg (Nat.not_lt_zero d)]).symm), z.2⟩)); clear hown hgro b2 ho hf))
      go_loopw [25] (fun jj wi => ∃ j : Nat, j ≤ n ∧ jj = .int .i64 j ∧ Hid (Part w wi n (i + 1) (mixN i j))) (fun jj _ => n - (intOf jj).toNat)
      case atStart => exact ⟨0, Nat.zero_le _, rfl, HN⟩
      case round =>
        clear HN ho2 hf2
        obtain ⟨j, hj, rfl, HN⟩ := hrel
        by_cases jlt : j < n
        · by_cases hij : i = j
          · have HE := Lib.hid (HN.out.ext (N := mixN i (j + 1)) (fun a d ha hd => by
              unfold mixN
              split
              · rfl
              · by_cases z : d < j
                · rw [if_pos z, if_pos (by omega)]
                · rw [if_neg z]
                  by_cases z2 : d < j + 1
                  · rw [if_pos z2]; unfold fresh; rw [if_pos (by omega)]
                  · rw [if_neg z2]))
            have t3 : ((i : Int) != (j : Int)) = false := by simp; omega
            clear hij HN
            go_wp2
            go_roundw
            case rel => exact ⟨j + 1, by omega, by go_num, HE⟩
            case measure => simp [intOf]; omega
          · obtain ⟨b, c, hh⟩ := HN.out
            have c1 := hh.1 i (Nat.lt_succ_self i)
            have c2 := (hh.2.2.2.1 i (Nat.lt_succ_self i)).2.1.inf j jlt
            have c3 := (hh.2.2.2.1 i (Nat.lt_succ_self i)).2.2.2.2 (0 + j * 2)
            have HE := Lib.hid ((Part.setInf hh (Nat.lt_succ_self i) jlt (by unfold mixN; rw [if_neg (Nat.lt_irrefl i), if_neg (Nat.lt_irrefl j)])).ext (N := mixN i (j + 1)) (fun a d ha hd => by
              unfold upd mixN
              by_cases z1 : a < i
              · rw [if_neg (by omega), if_pos z1, if_pos z1]
              · rw [if_neg z1, if_neg z1]
                by_cases z : d = j
                · rw [if_pos (by omega), if_pos (by omega)]; unfold fresh; rw [if_neg (by omega)]
                · rw [if_neg (fun x => z x.2)]
                  by_cases z2 : d < j
                  · rw [if_pos z2, if_pos (by omega)]
                  · rw [if_neg z2, if_neg (by omega)]))
            have t3 : ((i : Int) != (j : Int)) = true := by simp; omega
            rw [Nat.zero_add] at c2 c3 HE
            clear hij HN hh
            go_wp2
            go_roundw
            case rel => exact ⟨j + 1, by omega, by go_num, HE⟩
            case measure => simp [intOf]; omega
        · have HE := Lib.hid (HN.out.ext (N := fresh) (fun a d ha hd => by
            unfold mixN
            split
            · rfl
            · rw [if_pos (by omega)]))
          clear HN
          go_wp2
          go_roundw
          case rel => exact ⟨i + 1, by omega, by go_num, HE⟩
          case measure => simp [intOf]; omega
    · have hin : i = n := by omega
      have HD := Lib.hid (part_done (by rw [← hin]; exact hin ▸ HP.out : Part w wr n n fresh))
      clear hin
      go_wp2
      go_returns
      obtain ⟨b', c', hd⟩ := HD.out
      exact ⟨w.heap.size, 0, n, b', _, c', rfl, Nat.le_refl _, by omega, Lib.hid hd, Lib.hid (by obtain ⟨_, _, _, _, _, _, _, h, _⟩ := HP.out; exact h)⟩
end Go.Proofs.Ytnhbinghinlhgaa
