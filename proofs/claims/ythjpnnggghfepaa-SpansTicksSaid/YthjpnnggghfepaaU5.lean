/- Contracts: the sort of spans by where they begin. -/
import Derived.Test.YthjpnnggghfepaaLai
import Derived.Test.YthjpnnggghfepaaU3
import Derived.Laws.OwnMore
namespace Go.Proofs.Ythjpnnggghfepaa
set_option linter.unusedVariables false
set_option linter.unusedSimpArgs false
open Go.ChangeShapes Go.WideShapes Go.ChangeAt Go.RowKit
open Go.Sort (grow SWO PermIn SortedIn flatK putRowK HoldsK mapBlock putCells onCells size_flatK get_flatK alloc_eq_grow grow_grow)
def encSp (s : Sp) : List Value := [.int .i64 s.1, .int .i64 s.2]
def cfSp (x y : Sp) : Int := Lib.compareInt x.1 y.1
theorem ltSp (x y : Sp) : ltOf cfSp x y = decide (x.1 < y.1) := by
  unfold ltOf cfSp Lib.compareInt
  by_cases h1 : x.1 < y.1
  · simp [h1]
  · by_cases h2 : y.1 < x.1 <;> simp [h1, h2]
theorem swoSp : SWO (ltOf cfSp) where
  irrefl x := by rw [ltSp]; simp
  trans x y z h1 h2 := by rw [ltSp] at *; simp at *; omega
  ntrans x y z h1 h2 := by rw [ltSp] at *; simp at *; omega
theorem flat_sp (d : Array Sp) : (flatK encSp 2 d).toList = spCells d.toList := by
  apply List.ext_getElem?
  intro j
  by_cases hj : j < d.size * 2
  · have q0 := get_flatK encSp 2 d j hj
    have hi : j / 2 < d.toList.length := by rw [Array.length_toList]; omega
    have q := spCells_at d.toList (j / 2) hi
    have hs : j < (flatK encSp 2 d).size := by rw [size_flatK]; exact hj
    have e0 : d[j / 2]! = d.toList[j / 2] := by
      rw [getElem!_pos d (j / 2) (by omega)]; simp
    rw [getElem!_pos _ j hs, e0] at q0
    rw [Array.getElem?_toList, Array.getElem?_eq_getElem hs, q0]
    rcases Nat.mod_two_eq_zero_or_one j with e | e
    · have e2 : j / 2 * 2 = j := by omega
      rw [e2] at q; rw [q.1, e]; rfl
    · have e2 : j / 2 * 2 + 1 = j := by omega
      rw [e2] at q; rw [q.2, e]; rfl
  · rw [List.getElem?_eq_none (by rw [Array.length_toList, size_flatK]; omega), List.getElem?_eq_none (by rw [spCells_length, Array.length_toList]; omega)]
theorem holds_sp {w : World} {B g n cap : Nat} {l : List Sp} (hl : l.length = n) (hq : w.ownsRow B 35 2 (.slice (some ⟨g, 0, none⟩) n cap) n (spCells l)) : HoldsK encSp 2 w g 0 l.toArray := by
  intro j hj
  rw [size_flatK, List.size_toArray, hl] at hj
  rw [Nat.zero_add]
  refine ⟨?_, hq.frozenAt j⟩
  have e : spCells l = (flatK encSp 2 l.toArray).toList := (flat_sp l.toArray).symm
  rw [hq.cellAt j hj, e, Array.getElem?_toList]
  have hs : j < (flatK encSp 2 l.toArray).size := by rw [size_flatK, List.size_toArray, hl]; exact hj
  rw [Array.getElem?_eq_getElem hs, getElem!_pos _ j hs]; rfl
theorem sorted_row {w : World} {B g n cap : Nat} {l : List Sp} (hl : l.length = n) (hq : w.ownsRow B 35 2 (.slice (some ⟨g, 0, none⟩) n cap) n (spCells l)) (d' : Array Sp) (hd : d'.size = n) (m : Nat) (os : Array Obj) :
    (sortWorldK encSp 2 w g 0 m d' os).ownsRow B 35 2 (.slice (some ⟨g, 0, none⟩) n cap) n (spCells d'.toList) ∧ Below B w (sortWorldK encSp 2 w g 0 m d' os) := by
  have hH := holds_sp hl hq
  rcases hq.2 with ⟨h', _⟩ | ⟨g', cap', cur, h', hb, hg, h3, h4, h5, h6⟩
  · simp at h'
  · simp only [Value.slice.injEq, Option.some.injEq, Addr.mk.injEq, and_true, true_and] at h'
    obtain ⟨rfl, rfl⟩ := h'
    have lt : g < w.heap.size := (Array.getElem?_eq_some_iff.1 hg).1
    have hc := holdsK_sortWorldK_c encSp 2 w g 0 l.toArray d' m os hH lt (by rw [hd, List.size_toArray, hl])
    have hB : Below B w (sortWorldK encSp 2 w g 0 m d' os) := by
      refine ⟨rfl, rfl, rfl, size_sortWorldK_c encSp 2 w g 0 m d' os, fun k hk => ?_⟩
      unfold sortWorldK
      rw [Go.Sort.heap_grow_old _ _ (by rw [Go.Sort.size_putRowK]; show k < w.heap.size; omega)]
      show (w.heap.modify g _)[k]? = w.heap[k]?
      rw [Array.getElem?_modify, if_neg (by omega)]
    have hg2 : (sortWorldK encSp 2 w g 0 m d' os).heap[g]? = some (.cells (putCells id 0 (flatK encSp 2 d') cur) 35 (0, 0)) := by
      unfold sortWorldK
      rw [Go.Sort.heap_grow_old _ _ (by rw [Go.Sort.size_putRowK]; exact lt)]
      show (w.heap.modify g _)[g]? = _
      rw [Array.getElem?_modify, if_pos rfl, hg]; rfl
    refine ⟨⟨by rw [spCells_length, Array.length_toList, hd], .inr ⟨g, cap, _, rfl, hb, hg2, h3, h4, by simp [putCells, h5], ?_⟩⟩, hB⟩
    apply List.ext_getElem?
    intro j
    rw [List.getElem?_take]
    by_cases hj : j < n * 2
    · have hs : j < (flatK encSp 2 d').size := by rw [size_flatK, hd]; exact hj
      have q := (hc j hs).1
      rw [Nat.zero_add, cell_of_row _ g j _ _ _ hg2] at q
      rw [if_pos hj, ← flat_sp, Array.getElem?_toList, Array.getElem?_toList, q, Array.getElem?_eq_getElem hs, getElem!_pos _ j hs]; rfl
    · rw [if_neg hj, List.getElem?_eq_none (by rw [spCells_length, Array.length_toList, hd]; omega)]
set_option maxHeartbeats 1000000 in
theorem closure_sp (x y : Sp) (W : World) : Calls Try.prog 39 #[.agg #[.int .i64 x.1, .int .i64 x.2], .agg #[.int .i64 y.1, .int .i64 y.2]] W fun e w' => e = .returned (.int .i64 (cfSp x y)) ∧ ∃ q os', w' = grow (W.drewN q) os' := by
  have hcon := fun W' => AnyG.cmp_Compare_int Try.cmpInt x.1 y.1 W'
  change ∀ W', Calls Try.prog 40 _ _ _ at hcon
  unfold cfSp
  generalize Lib.compareInt x.1 y.1 = r at hcon ⊢
  go_enter Try.func39, Try.ntmps39
  go_wp2_with (go_at_call 40; refine (hcon _).mono ?_; rintro e w' ⟨rfl, rfl⟩)
  go_ret
  exact ⟨rfl, 0, _, by rw [alloc_eq_grow, alloc_eq_grow, grow_grow]; rfl⟩
theorem cmpLays_sp (blk off size : Nat) (w : World) : CmpLays Try.prog 39 #[] encSp 2 cfSp blk off size w := fun _ _ _ _ x y => closure_sp x y _
/-- Sorted by where they begin. -/
def Begun (l : List Sp) : Prop := ∀ i j (hi : i < l.length) (hj : j < l.length), i < j → l[i].1 ≤ l[j].1
theorem sort_any (B g n cap : Nat) (l : List Sp) (hl : l.length = n) (hn : n ≤ 1000000) (w : World) (hq : w.ownsRow B 35 2 (.slice (some ⟨g, 0, none⟩) n cap) n (spCells l)) :
    Calls Try.prog 38 #[.slice (some ⟨g, 0, none⟩) n cap, .func (.func 39) #[] #[]] w fun e w' => e = .returned (.tuple #[]) ∧ ∃ l', l'.Perm l ∧ Begun l' ∧ w'.ownsRow B 35 2 (.slice (some ⟨g, 0, none⟩) n cap) n (spCells l') ∧ Below B w w' := by
  subst hl
  have eg : ∀ args w, (callFunc 39 args).run Try.prog w = .ok (.enter 39 args) w := enters_of Try.func39 (by kernel_rfl) rfl
  have lt : g < w.heap.size := (hq.lt g rfl).2
  have hcon := AnyQ.slices_SortFunc Try.sortSp 2 Try.isAgg35 Try.sizeOf35 encSp (fun _ => rfl) (fun x v hv => by simp [encSp] at hv; rcases hv with rfl | rfl <;> rfl) cfSp swoSp 39 #[] g 0 cap l.toArray w eg (cmpLays_sp g 0 l.toArray.size w) (holds_sp rfl hq) lt (by rw [List.size_toArray]; omega)
  change Calls Try.prog 38 _ _ _ at hcon
  refine hcon.mono ?_
  rintro e w' ⟨rfl, d', m, os, hp, hs, rfl⟩
  have hd : d'.size = l.length := hp.1.trans List.size_toArray
  obtain ⟨r1, r2⟩ := sorted_row rfl hq d' hd m os
  refine ⟨rfl, d'.toList, ?_, ?_, r1, r2⟩
  · have q := hp.2.2
    rw [List.size_toArray] at q
    have e1 : d'.extract 0 l.length = d' := by rw [← hd]; simp
    have e2 : l.toArray.extract 0 l.length = l.toArray := by simp
    rw [e1, e2] at q
    exact q
  · intro i j hi hj hij
    rw [Array.length_toList] at hi hj
    have q := hs i j (Nat.zero_le _) hij (by rw [List.size_toArray, ← hd]; exact hj)
    rw [ltSp, getElem!_pos d' j hj, getElem!_pos d' i hi] at q
    simp at q
    simpa using q
end Go.Proofs.Ythjpnnggghfepaa
