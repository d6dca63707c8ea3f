/- Sp4, Sp5 in one. -/
import Derived.Test.YtjhbgedobkpdhaaSp3
import Derived.Test.YtjhbgedobkpdhaaLai
import Derived.Laws.OwnMore
import Derived.BigRegion
import Derived.Deep.MidRow
import Derived.Shelf.SlSortCmp.NoneTotal
namespace Go.Proofs.Ytjhbgedobkpdhaa
set_option linter.unusedVariables false
set_option linter.unusedSimpArgs false
open Go.ChangeShapes Go.WideShapes Go.ChangeAt Go.RowKit
open Go.Sort (grow SWO PermIn SortedIn flatK putRowK HoldsK mapBlock putCells onCells size_flatK get_flatK alloc_eq_grow grow_grow)
def encSp (s : Sp) : List Value := [.int .i64 s.1, .int .i64 s.2]
def cfSp (x y : Sp) : Int := Lib.compareInt x.1 y.1
theorem ltSp (x y : Sp) : ltOf cfSp x y = decide (x.1 < y.1) := by
  unfold ltOf cfSp Lib.compareInt
  by_cases h1 : x.1 < y.1
  · simp [h1]
  · by_cases h2 : y.1 < x.1 <;> simp [h1, h2]
theorem swoSp : SWO (ltOf cfSp) where
  irrefl x := by rw [ltSp]; simp
  trans x y z h1 h2 := by rw [ltSp] at *; simp at *; omega
  ntrans x y z h1 h2 := by rw [ltSp] at *; simp at *; omega
theorem flat_sp (d : Array Sp) : (flatK encSp 2 d).toList = spCells d.toList := by
  apply List.ext_getElem?
  intro j
  by_cases hj : j < d.size * 2
  · have q0 := get_flatK encSp 2 d j hj
    have hi : j / 2 < d.toList.length := by rw [Array.length_toList]; omega
    have q := spCells_at d.toList (j / 2) hi
    have hs : j < (flatK encSp 2 d).size := by rw [size_flatK]; exact hj
    have e0 : d[j / 2]! = d.toList[j / 2] := by
      rw [getElem!_pos d (j / 2) (by omega)]; simp
    rw [getElem!_pos _ j hs, e0] at q0
    rw [Array.getElem?_toList, Array.getElem?_eq_getElem hs, q0]
    rcases Nat.mod_two_eq_zero_or_one j with e | e
    · have e2 : j / 2 * 2 = j := by omega
      rw [e2] at q; rw [q.1, e]; rfl
    · have e2 : j / 2 * 2 + 1 = j := by omega
      rw [e2] at q; rw [q.2, e]; rfl
  · rw [List.getElem?_eq_none (by rw [Array.length_toList, size_flatK]; omega), List.getElem?_eq_none (by rw [spCells_length, Array.length_toList]; omega)]
theorem holds_sp {w : World} {B g n cap : Nat} {l : List Sp} (hl : l.length = n) (hq : w.ownsRow B 33 2 (.slice (some ⟨g, 0, none⟩) n cap) n (spCells l)) : HoldsK encSp 2 w g 0 l.toArray := by
  intro j hj
  rw [size_flatK, List.size_toArray, hl] at hj
  rw [Nat.zero_add]
  refine ⟨?_, hq.frozenAt j⟩
  have e : spCells l = (flatK encSp 2 l.toArray).toList := (flat_sp l.toArray).symm
  rw [hq.cellAt j hj, e, Array.getElem?_toList]
  have hs : j < (flatK encSp 2 l.toArray).size := by rw [size_flatK, List.size_toArray, hl]; exact hj
  rw [Array.getElem?_eq_getElem hs, getElem!_pos _ j hs]; rfl
theorem sorted_row {w : World} {B g n cap : Nat} {l : List Sp} (hl : l.length = n) (hq : w.ownsRow B 33 2 (.slice (some ⟨g, 0, none⟩) n cap) n (spCells l)) (d' : Array Sp) (hd : d'.size = n) (m : Nat) (os : Array Obj) :
    (sortWorldK encSp 2 w g 0 m d' os).ownsRow B 33 2 (.slice (some ⟨g, 0, none⟩) n cap) n (spCells d'.toList) ∧ Below B w (sortWorldK encSp 2 w g 0 m d' os) := by
  have hH := holds_sp hl hq
  rcases hq.2 with ⟨h', _⟩ | ⟨g', cap', cur, h', hb, hg, h3, h4, h5, h6⟩
  · simp at h'
  · simp only [Value.slice.injEq, Option.some.injEq, Addr.mk.injEq, and_true, true_and] at h'
    obtain ⟨rfl, rfl⟩ := h'
    have lt : g < w.heap.size := (Array.getElem?_eq_some_iff.1 hg).1
    have hc := holdsK_sortWorldK_c encSp 2 w g 0 l.toArray d' m os hH lt (by rw [hd, List.size_toArray, hl])
    have hB : Below B w (sortWorldK encSp 2 w g 0 m d' os) := by
      refine ⟨rfl, rfl, rfl, size_sortWorldK_c encSp 2 w g 0 m d' os, fun k hk => ?_⟩
      unfold sortWorldK
      rw [Go.Sort.heap_grow_old _ _ (by rw [Go.Sort.size_putRowK]; show k < w.heap.size; omega)]
      show (w.heap.modify g _)[k]? = w.heap[k]?
      rw [Array.getElem?_modify, if_neg (by omega)]
    have hg2 : (sortWorldK encSp 2 w g 0 m d' os).heap[g]? = some (.cells (putCells id 0 (flatK encSp 2 d') cur) 33 (0, 0)) := by
      unfold sortWorldK
      rw [Go.Sort.heap_grow_old _ _ (by rw [Go.Sort.size_putRowK]; exact lt)]
      show (w.heap.modify g _)[g]? = _
      rw [Array.getElem?_modify, if_pos rfl, hg]; rfl
    refine ⟨⟨by rw [spCells_length, Array.length_toList, hd], .inr ⟨g, cap, _, rfl, hb, hg2, h3, h4, by simp [putCells, h5], ?_⟩⟩, hB⟩
    apply List.ext_getElem?
    intro j
    rw [List.getElem?_take]
    by_cases hj : j < n * 2
    · have hs : j < (flatK encSp 2 d').size := by rw [size_flatK, hd]; exact hj
      have q := (hc j hs).1
      rw [Nat.zero_add, cell_of_row _ g j _ _ _ hg2] at q
      rw [if_pos hj, ← flat_sp, Array.getElem?_toList, Array.getElem?_toList, q, Array.getElem?_eq_getElem hs, getElem!_pos _ j hs]; rfl
    · rw [if_neg hj, List.getElem?_eq_none (by rw [spCells_length, Array.length_toList, hd]; omega)]
set_option maxHeartbeats 1000000 in
theorem closure_sp (x y : Sp) (W : World) : Calls Try.prog 44 #[.agg #[.int .i64 x.1, .int .i64 x.2], .agg #[.int .i64 y.1, .int .i64 y.2]] W fun e w' => e = .returned (.int .i64 (cfSp x y)) ∧ ∃ q os', w' = grow (W.drewN q) os' := by
  have hcon := fun W' => AnyG.cmp_Compare_int Try.cmpInt x.1 y.1 W'
  change ∀ W', Calls Try.prog 45 _ _ _ at hcon
  unfold cfSp
  generalize Lib.compareInt x.1 y.1 = r at hcon ⊢
  go_enter Try.func44, Try.ntmps44
  go_wp2_with (go_at_call 45; refine (hcon _).mono ?_; rintro e w' ⟨rfl, rfl⟩)
  go_ret
  exact ⟨rfl, 0, _, by rw [alloc_eq_grow, alloc_eq_grow, grow_grow]; rfl⟩
theorem cmpLays_sp (blk off size : Nat) (w : World) : CmpLays Try.prog 44 #[] encSp 2 cfSp blk off size w := fun _ _ _ _ x y => closure_sp x y _
/-- Sorted by where they begin. -/
def Begun (l : List Sp) : Prop := ∀ i j (hi : i < l.length) (hj : j < l.length), i < j → l[i].1 ≤ l[j].1
theorem sort_any (B g n cap : Nat) (l : List Sp) (hl : l.length = n) (hn : n ≤ 1000000) (w : World) (hq : w.ownsRow B 33 2 (.slice (some ⟨g, 0, none⟩) n cap) n (spCells l)) :
    Calls Try.prog 43 #[.slice (some ⟨g, 0, none⟩) n cap, .func (.func 44) #[] #[]] w fun e w' => e = .returned (.tuple #[]) ∧ ∃ l', l'.Perm l ∧ Begun l' ∧ w'.ownsRow B 33 2 (.slice (some ⟨g, 0, none⟩) n cap) n (spCells l') ∧ Below B w w' := by
  subst hl
  have eg : ∀ args w, (callFunc 44 args).run Try.prog w = .ok (.enter 44 args) w := enters_of Try.func44 (by kernel_rfl) rfl
  have lt : g < w.heap.size := (hq.lt g rfl).2
  have hcon := AnyQ.slices_SortFunc Try.sortSp 2 Try.isAgg33 Try.sizeOf33 encSp (fun _ => rfl) (fun x v hv => by simp [encSp] at hv; rcases hv with rfl | rfl <;> rfl) cfSp swoSp 44 #[] g 0 cap l.toArray w eg (cmpLays_sp g 0 l.toArray.size w) (holds_sp rfl hq) lt (by rw [List.size_toArray]; omega)
  change Calls Try.prog 43 _ _ _ at hcon
  refine hcon.mono ?_
  rintro e w' ⟨rfl, d', m, os, hp, hs, rfl⟩
  have hd : d'.size = l.length := hp.1.trans List.size_toArray
  obtain ⟨r1, r2⟩ := sorted_row rfl hq d' hd m os
  refine ⟨rfl, d'.toList, ?_, ?_, r1, r2⟩
  · have q := hp.2.2
    rw [List.size_toArray] at q
    have e1 : d'.extract 0 l.length = d' := by rw [← hd]; simp
    have e2 : l.toArray.extract 0 l.length = l.toArray := by simp
    rw [e1, e2] at q
    exact q
  · intro i j hi hj hij
    rw [Array.length_toList] at hi hj
    have q := hs i j (Nat.zero_le _) hij (by rw [List.size_toArray, ← hd]; exact hj)
    rw [ltSp, getElem!_pos d' j hj, getElem!_pos d' i hi] at q
    simp at q
    simpa using q
theorem own_lower {w : World} {B B' e s n : Nat} {v : Value} {xs : List Value} (h : w.ownsRow B e s v n xs) (hb : B' ≤ B) : w.ownsRow B' e s v n xs := by
  obtain ⟨h1, h2⟩ := h
  refine ⟨h1, ?_⟩
  rcases h2 with h2 | ⟨g, cap, cur, e1, e2, e3, e4⟩
  · exact .inl h2
  · exact .inr ⟨g, cap, cur, e1, Nat.le_trans hb e2, e3, e4⟩
theorem sort_own (B n c : Nat) (ao : Option Addr) (l : List Sp) (hl : l.length = n) (hn : n ≤ 1000000) (w : World) (hq : w.ownsRow B 33 2 (.slice ao n c) n (spCells l))
    (hnone : ∀ w', Calls Try.prog 43 #[.slice none 0 0, .func (.func 44) #[] #[]] w' fun e w'' => e = .returned (.tuple #[]) ∧ w'' = w') :
    Calls Try.prog 43 #[.slice ao n c, .func (.func 44) #[] #[]] w fun e w' => e = .returned (.tuple #[]) ∧ ∃ l', l'.Perm l ∧ Begun l' ∧ SpAt w' ao n c l' ∧ Below B w w' := by
  rcases hq.2 with ⟨e1, e2⟩ | ⟨g, cap, cur, e1, _⟩
  · cases e1
    obtain rfl : l = [] := List.eq_nil_of_length_eq_zero hl
    exact (hnone w).mono fun e w' ⟨h1, h2⟩ => ⟨h1, [], List.Perm.refl _, (fun i j hi => absurd hi (Nat.not_lt_zero _)), by subst h2; exact SpAt.nil _, by subst h2; exact Below.refl _ _⟩
  · cases e1
    exact (sort_any B g n c l hl hn w hq).mono fun e w' ⟨h1, l', h2, h3, h4, h5⟩ => by
      obtain ⟨ao', c', e5, hs⟩ := own_sp (h2.length_eq.trans hl) h4
      cases e5
      exact ⟨h1, l', h2, h3, hs, h5⟩
/-- What Make tells. -/
def Made (B : Nat) (w' : World) (l : List Sp) (v : Value) (k : Int) : Prop :=
  ((∃ s ∈ l, s.2 < s.1) ∧ k = 2 ∧ v = .slice none 0 0) ∨ ((∀ s ∈ l, s.1 ≤ s.2) ∧ (∃ s ∈ l, ¬ TkSp s) ∧ k = 20 ∧ v = .slice none 0 0) ∨
  ((∀ s ∈ l, s.1 ≤ s.2) ∧ (∀ s ∈ l, TkSp s) ∧ k = 0 ∧ ∃ r, Good r ∧ (∀ t, mem r t ↔ mem l t) ∧ r.length ≤ l.length ∧ w'.ownsRow B 33 2 v r.length (spCells r))
theorem tk_iff (x y : Int) : TkSp (x, y) ↔ tickB x = true ∧ tickB y = true := by rw [tickB_iff, tickB_iff]; rfl
set_option maxRecDepth 10000 in
set_option maxHeartbeats 4000000 in
theorem make_any (hnone : ∀ w', Calls Try.prog 43 #[.slice none 0 0, .func (.func 44) #[] #[]] w' fun e w'' => e = .returned (.tuple #[]) ∧ w'' = w')
    (ao : Option Addr) (n c : Nat) (l : List Sp) (hn : n ≤ 1000000) (w : World) (hl : SpAt w ao n c l) :
    Calls Try.prog 18 #[.slice ao n c] w fun e w' => ∃ (v : Value) (k : Int), e = .returned (.tuple #[v, .int .i64 k]) ∧ Below w.heap.size w w' ∧ Made w.heap.size w' l v k := by
  have HNO := Lib.hid hnone
  obtain ⟨i0, hi, hz0, hz1, hz2⟩ := info_parts info33
  have HL := Lib.hid hl
  have LN := Lib.hid hl.len
  have HII := Lib.hid hi
  have HZ0 := Lib.hid hz0
  have HZ1 := Lib.hid hz1
  have HZ2 := Lib.hid hz2
  clear hl hnone hi hz0 hz1 hz2
  go_enter Try.func18, Try.ntmps18
  go_wp2
  go_loopw [15] (fun ii wr => ∃ i : Nat, i ≤ n ∧ ii = .int .i64 i ∧ Hid (∀ s ∈ l.take i, s.1 ≤ s.2) ∧ Hid (Below w.heap.size w wr)) (fun ii _ => n - (intOf ii).toNat)
  case atStart => exact ⟨0, Nat.zero_le _, rfl, Lib.hid (fun s h => by cases h), Lib.hid (Below.refl _ _)⟩
  case round =>
    obtain ⟨i, hi, rfl, HI, HW⟩ := hrel
    by_cases ilt : i < n
    · obtain ⟨b, p, rfl, hc⟩ := HL.out.here (by omega)
      have hil : i < l.length := by rw [LN.out]; exact ilt
      have c1 := cell_keep (hc i hil).1 HW.out
      have c2 := cell_keep (hc i hil).2 HW.out
      have HT := Lib.hid (fun s => mem_take_succ (s := s) hil)
      have HM := Lib.hid (List.getElem_mem hil)
      have i0' : (0 : Int) ≤ (i : Int) := by omega
      have i1' : (i : Int) < (n : Int) := by omega
      clear hc
      obtain ⟨s, hs⟩ : ∃ z, l[i] = z := ⟨_, rfl⟩
      rw [hs] at c1 c2 HT HM
      clear hs hil
      obtain ⟨x, y⟩ := s
      simp only at c1 c2
      have b1 := (box_cells wr (.int .i64 x) (.int .i64 y) 33).1
      have b2 := (box_cells wr (.int .i64 x) (.int .i64 y) 33).2
      have HW2 := Lib.hid (HW.out.alloc HW.out.size (.cells #[.int .i64 x, .int .i64 y] 33))
      by_cases h : y < x
      · go_wp2
        go_returns
        exact ⟨_, _, rfl, HW2.out, .inl ⟨⟨_, HM.out, h⟩, rfl, rfl⟩⟩
      · have HI2 : Hid (∀ s ∈ l.take (i + 1), s.1 ≤ s.2) := Lib.hid (fun s hs => by
          rcases (HT.out s).1 hs with g | rfl
          · exact HI.out s g
          · show x ≤ y; omega)
        go_wp2
        go_roundw
        case rel => exact ⟨i + 1, by omega, by go_num, HI2, HW2⟩
        case measure => simp [intOf]; omega
    · obtain rfl : i = n := by omega
      have HLE : Hid (∀ s ∈ l, s.1 ≤ s.2) := Lib.hid (fun s hs => HI.out s (by rw [List.take_of_length_le (by rw [LN.out]; exact Nat.le_refl _)]; exact hs))
      clear HI
      go_wp2
      go_loopw [27] (fun ii wi => ∃ j : Nat, j ≤ i ∧ ii = .int .i64 j ∧ Hid (∀ s ∈ l.take j, TkSp s) ∧ Hid (Below w.heap.size w wi)) (fun ii _ => i - (intOf ii).toNat)
      case atStart => exact ⟨0, Nat.zero_le _, rfl, Lib.hid (fun s h => by cases h), HW⟩
      case round =>
        obtain ⟨j, hj, rfl, HJ, HWi⟩ := hrel
        by_cases jlt : j < i
        · obtain ⟨b, p, rfl, hc⟩ := HL.out.here (by omega)
          have hil : j < l.length := by rw [LN.out]; exact jlt
          have c1 := cell_keep (hc j hil).1 HWi.out
          have c2 := cell_keep (hc j hil).2 HWi.out
          have HT := Lib.hid (fun s => mem_take_succ (s := s) hil)
          have HM := Lib.hid (List.getElem_mem hil)
          have i0' : (0 : Int) ≤ (j : Int) := by omega
          have i1' : (j : Int) < (i : Int) := by omega
          clear hc
          obtain ⟨s, hs⟩ : ∃ z, l[j] = z := ⟨_, rfl⟩
          rw [hs] at c1 c2 HT HM
          clear hs hil
          obtain ⟨x, y⟩ := s
          simp only at c1 c2
          have b1 := (box_cells wr (.int .i64 x) (.int .i64 y) 33).1
          have b2 := (box_cells wr (.int .i64 x) (.int .i64 y) 33).2
          have HW2 := Lib.hid (HWi.out.alloc HWi.out.size (.cells #[.int .i64 x, .int .i64 y] 33))
          have T1 := Lib.hid (fun (w : World) => tick_any x w)
          have T2 := Lib.hid (fun (w : World) => tick_any y w)
          have TI := Lib.hid (tk_iff x y)
          cases h1 : tickB x
          · have HNT : Hid (¬ TkSp (x, y)) := Lib.hid (fun q => by have := (TI.out.1 q).1; rw [h1] at this; cases this)
            rw [h1] at T1
            clear h1
            go_wp2_with (go_at_call 41; with_reducible refine (T1.out _).mono ?_; rintro e w3 ⟨rfl, rfl⟩)
            go_returns
            exact ⟨_, _, rfl, HW2.out, .inr (.inl ⟨HLE.out, ⟨_, HM.out, HNT.out⟩, rfl, rfl⟩)⟩
          · cases h2 : tickB y
            · have HNT : Hid (¬ TkSp (x, y)) := Lib.hid (fun q => by have := (TI.out.1 q).2; rw [h2] at this; cases this)
              rw [h1] at T1
              rw [h2] at T2
              clear h1 h2
              go_wp2_with (first | (go_at_call 41; with_reducible refine (T1.out _).mono ?_; rintro e w3 ⟨rfl, rfl⟩) | (go_at_call 41; with_reducible refine (T2.out _).mono ?_; rintro e w4 ⟨rfl, rfl⟩))
              go_returns
              exact ⟨_, _, rfl, HW2.out, .inr (.inl ⟨HLE.out, ⟨_, HM.out, HNT.out⟩, rfl, rfl⟩)⟩
            · have HJ2 : Hid (∀ s ∈ l.take (j + 1), TkSp s) := Lib.hid (fun s hs => by
                rcases (HT.out s).1 hs with g | rfl
                · exact HJ.out s g
                · exact TI.out.2 ⟨h1, h2⟩)
              rw [h1] at T1
              rw [h2] at T2
              clear h1 h2
              go_wp2_with (first | (go_at_call 41; with_reducible refine (T1.out _).mono ?_; rintro e w3 ⟨rfl, rfl⟩) | (go_at_call 41; with_reducible refine (T2.out _).mono ?_; rintro e w4 ⟨rfl, rfl⟩))
              go_roundw
              case rel => exact ⟨j + 1, by omega, by go_num, HJ2, HW2⟩
              case measure => simp [intOf]; omega
        · obtain rfl : j = i := by omega
          have HTK : Hid (∀ s ∈ l, TkSp s) := Lib.hid (fun s hs => HJ.out s (by rw [List.take_of_length_le (by rw [LN.out]; exact Nat.le_refl _)]; exact hs))
          clear HJ
          have CL := Lib.hid (clone_any ao j c l hn wr (HL.out.keep HWi.out))
          go_upto_region 14 with (go_at_call 42; with_reducible refine CL.out.mono ?_; rintro e w1 ⟨v, rfl, hq1, hb1⟩)
          obtain ⟨ao1, cc1, rfl, _⟩ := own_sp LN.out hq1
          have SO := Lib.hid (sort_own wr.heap.size j cc1 ao1 l LN.out hn w1 hq1 HNO.out)
          have HW1 := Lib.hid (HWi.out.trans (hb1.mono HWi.out.size))
          have HSZ := Lib.hid hb1.size
          clear hq1 hb1 CL
          go_upto_region 15 with (go_at_call 43; with_reducible refine SO.out.mono ?_; rintro e w2 ⟨rfl, l', hp, hb, hs, hb2⟩)
          have HWW := Lib.hid (HW1.out.trans ((Below.mono hb2 HWi.out.size).mono (Nat.le_refl _)))
          have LP : Hid (l'.length = j) := Lib.hid (hp.length_eq.trans LN.out)
          have HP := Lib.hid hp
          have HBG := Lib.hid hb
          have HL2 := Lib.hid hs
          clear hp hb hs hb2 SO
          go_wp2
          go_loopw [9, 48] (fun rv ii wx => ∃ i : Nat, i ≤ j ∧ ii = .int .i64 i ∧ ∃ r, Hid (Joined (l'.take i) r) ∧ Hid (wx.ownsRow w2.heap.size 33 2 rv r.length (spCells r)) ∧ Hid (Below w2.heap.size w2 wx)) (fun _ ii _ => j - (intOf ii).toNat)
          case atStart => exact ⟨0, Nat.zero_le _, rfl, [], Lib.hid joined_nil, Lib.hid (World.ownsRow_nil _ _ _ _), Lib.hid (Below.refl _ _)⟩
          case round =>
            obtain ⟨i, hi, rfl, r, HJ, HO, HX⟩ := hrel
            by_cases ilt : i < j
            · have hil : i < l'.length := by rw [LP.out]; exact ilt
              obtain ⟨b', p', rfl, hc⟩ := HL2.out.here (by omega)
              have c1 := cell_keep (hc i hil).1 HX.out
              have c2 := cell_keep (hc i hil).2 HX.out
              have HTT := Lib.hid (List.take_succ_eq_append_getElem hil)
              have HM := Lib.hid (List.getElem_mem hil)
              have HBB : Hid (∀ q ∈ l'.take i, q.1 ≤ l'[i].1) := Lib.hid (fun q hq => by
                obtain ⟨t, ht, rfl⟩ := List.getElem_of_mem hq
                rw [List.length_take] at ht
                rw [List.getElem_take]
                exact HBG.out t i (by omega) hil (by omega))
              have i0' : (0 : Int) ≤ (i : Int) := by omega
              have i1' : (i : Int) < (j : Int) := by omega
              clear hc
              obtain ⟨s, hs⟩ : ∃ z, l'[i] = z := ⟨_, rfl⟩
              rw [hs] at c1 c2 HTT HM HBB
              clear hs hil
              obtain ⟨x, y⟩ := s
              simp only at c1 c2 HBB
              have HXY : Hid (x ≤ y) := Lib.hid (HLE.out (x, y) (HP.out.mem_iff.1 HM.out))
              have HXT : Hid (TkSp (x, y)) := Lib.hid (HTK.out (x, y) (HP.out.mem_iff.1 HM.out))
              have b1 := (box_cells wr (.int .i64 x) (.int .i64 y) 33).1
              have b2 := (box_cells wr (.int .i64 x) (.int .i64 y) 33).2
              have KA := Lib.hid ((Below.refl _ wr).alloc (Nat.le_refl _) (.cells #[.int .i64 x, .int .i64 y] 33))
              have HX2 := Lib.hid (HX.out.alloc HX.out.size (.cells #[.int .i64 x, .int .i64 y] 33))
              have HO2 := Lib.hid (keepB HO.out KA.out)
              have hml := HJ.out.len
              rw [List.length_take] at hml
              obtain ⟨m, hm⟩ : ∃ m, r.length = m := ⟨_, rfl⟩
              have HOm := HO2.out
              rw [hm] at HOm hml
              obtain ⟨rao, rc, rfl, hrs⟩ := own_sp hm HOm
              have HON := Lib.hid HOm
              have HRS := Lib.hid hrs
              clear HOm hrs HO HO2
              have hmx : m ≤ 1000000 := by omega
              by_cases h0 : r = []
              · have hm0 : m = 0 := by rw [← hm, h0]; rfl
                subst hm0
                have HJ2 : Hid (Joined (l'.take (i + 1)) (r ++ [(x, y)])) := Lib.hid (by rw [HTT.out]; exact joined_push HJ.out (x, y) HXY.out HXT.out (fun e => absurd h0 e))
                go_wp2
                go_quiet (fail)
                go_upto_region 22 with fail
                obtain ⟨W, hW⟩ : ∃ W, (wr.alloc (.cells #[.int .i64 x, .int .i64 y] 33)).drewN nq = W := ⟨_, rfl⟩
                have v1 : W.cell? ⟨wr.heap.size, 0, none⟩ = some (.int .i64 x) := by rw [← hW]; exact b1
                have v2 : W.cell? ⟨wr.heap.size, 1, none⟩ = some (.int .i64 y) := by rw [← hW]; exact b2
                have HXW := Lib.hid (below_drewN HX2.out nq)
                have HOW := Lib.hid (keepB HON.out (below_drewN (Below.refl _ (wr.alloc (.cells #[.int .i64 x, .int .i64 y] 33))) nq))
                rw [hW] at HXW HOW
                rw [hW]
                clear hW
                have HCC : Hid (spCells r ++ [.int .i64 x, .int .i64 y] = spCells (r ++ [(x, y)])) := Lib.hid (by rw [spCells_snoc])
                have HLL : Hid (r.length + 1 = (r ++ [(x, y)]).length) := Lib.hid (by simp)
                go_wp2_with (at_builtin; refine wpList_append_own _ rfl _ _ 28 rfl w2.heap.size 33 i0 (.agg #[.int .i64 0, .int .i64 0]) 2 16 Try.underlying28 HII.out HZ0.out HZ1.out HZ2.out rfl (by decide) _ _ (spCells r) rfl (keepB HOW.out ((Below.refl _ W).alloc (Nat.le_refl _) _)) ⟨W.heap.size, 0, none⟩ 1 1 [.int .i64 x, .int .i64 y] rfl rfl (cells_new2 W _ _ _) (by intro z hz; simp at hz; rcases hz with rfl | rfl <;> rfl) (by unfold maxLen; omega) (by omega) (by have := HXW.out.size; simp; omega) ?_; intro v' w3 hown hgrow _; rw [HCC.out] at hown; have HO3 := Lib.hid hown; have HB3 := Lib.hid ((HXW.out.alloc HXW.out.size (.cells #[.int .i64 x, .int .i64 y] 33)).grown hgrow (Nat.le_trans HXW.out.size (by simp)) (fun q hq => (HOW.out.lt q hq).1)); clear hown hgrow)
                go_roundw
                case rel => exact ⟨i + 1, by omega, by go_num, _, HJ2, Lib.hid (by have q := HO3.out; have q2 := HLL.out; rw [hm] at q2; rw [← q2]; exact q), HB3⟩
                case measure => simp [intOf]; omega
              · obtain ⟨z, r0, hr⟩ : ∃ z r0, r = r0 ++ [z] := ⟨r.getLast h0, r.dropLast, (List.dropLast_concat_getLast h0).symm⟩
                obtain ⟨k, hk⟩ : ∃ k, r0.length = k := ⟨_, rfl⟩
                have hmk : m = k + 1 := by rw [← hm, hr]; simp [hk]
                subst hmk
                obtain ⟨g, rfl⟩ : ∃ g, rao = some ⟨g, 0, none⟩ := by
                  rcases HON.out.2 with ⟨e, _⟩ | ⟨g, cap, cur, e, _⟩
                  · cases e
                  · cases e; exact ⟨g, rfl⟩
                have hkr : k < r.length := by omega
                have q0 := spCells_at r k hkr
                have e0 : r[k] = z := by subst hr; subst hk; simp
                rw [e0] at q0
                obtain ⟨zx, zy⟩ := z
                simp only at q0
                have d2 := HON.out.cellAt (k * 2 + 1) (by omega)
                rw [q0.2] at d2
                have d3 := HON.out.frozenAt (k * 2 + 1)
                have hzz := (rt_snoc r0 _ (zx, zy)).1 (by rw [← hr]; exact HJ.out.good)
                have hz0 := nxt_le hzz.1
                have hz1 : -1099511627776 ≤ zy := by have := hzz.2.1; have := hzz.2.2.1; simp only at *; omega
                have hz2 : zy ≤ 1099511627776 := hzz.2.2.2
                have HZX : Hid (zx ≤ x) := Lib.hid (by
                  obtain ⟨q, hq, e⟩ := HJ.out.starts (zx, zy) (by rw [hr]; simp)
                  have := HBB.out q hq
                  simp only at e; omega)
                clear hzz hz0
                have e1 : IntKind.i64.wrap (((k + 1 : Nat) : Int) - 1) = (k : Int) := by rw [IntWalk.i64_in _ (by omega)]; omega
                have k0 : (0 : Int) ≤ (k : Int) := by omega
                have k1 : (k : Int) < ((k + 1 : Nat) : Int) := by omega
                have k2 : k < k + 1 := by omega
                have k3 : (0 : Int) < ((k + 1 : Nat) : Int) := by omega
                clear q0 e0
                by_cases hcmp : x ≤ zy + 1
                · go_wp2
                  go_quiet (fail)
                  go_upto_region 21 with fail
                  obtain ⟨W, hW⟩ : ∃ W, (wr.alloc (.cells #[.int .i64 x, .int .i64 y] 33)).drewN nq = W := ⟨_, rfl⟩
                  have v1 : W.cell? ⟨wr.heap.size, 0, none⟩ = some (.int .i64 x) := by rw [← hW]; exact b1
                  have v2 : W.cell? ⟨wr.heap.size, 1, none⟩ = some (.int .i64 y) := by rw [← hW]; exact b2
                  have v3 : W.cell? ⟨g, k * 2 + 1, none⟩ = some (.int .i64 zy) := by rw [← hW]; exact d2
                  have v4 : W.frozen? ⟨g, k * 2 + 1, none⟩ = false := by rw [← hW]; exact d3
                  have HXW := Lib.hid (below_drewN HX2.out nq)
                  have HOW := Lib.hid (keepB HON.out (below_drewN (Below.refl _ (wr.alloc (.cells #[.int .i64 x, .int .i64 y] 33))) nq))
                  rw [hW] at HXW HOW
                  rw [hW]
                  clear hW d2 d3
                  have HJ2 : Hid (Joined (l'.take (i + 1)) (r0 ++ [(zx, max zy y)])) := Lib.hid (by rw [HTT.out]; exact joined_grow (by rw [← hr]; exact HJ.out) (x, y) HXY.out HXT.out HZX.out hcmp _ rfl)
                  have HSET : Hid ((spCells r).set (k * 2 + 1) (.int .i64 (max zy y)) = spCells (r0 ++ [(zx, max zy y)])) := Lib.hid (by
                    have hlen : (spCells r0).length = k * 2 := by rw [spCells_length, hk]
                    rw [hr, spCells_snoc, spCells_snoc, List.set_append_right _ _ (by omega), hlen, show k * 2 + 1 - k * 2 = 1 by omega]; rfl)
                  have HLL : Hid (k + 1 = (r0 ++ [(zx, max zy y)]).length) := Lib.hid (by simp [hk])
                  have hst := (HOW.out.stored (k * 2 + 1) (.int .i64 (max zy y))).1
                  rw [HSET.out] at hst
                  have HO3 := Lib.hid hst
                  have HB3 := Lib.hid (HXW.out.setCell (p := ⟨g, k * 2 + 1, none⟩) (HOW.out.lt g rfl).1 (.int .i64 (max zy y)))
                  clear hst
                  go_region
                  go_wp2
                  go_roundw
                  case rel => exact ⟨i + 1, by omega, by go_num, _, HJ2, Lib.hid (by rw [← HLL.out]; exact HO3.out.drew), Lib.hid (HB3.out.drew)⟩
                  case measure => simp [intOf]; omega
                · have HJ2 : Hid (Joined (l'.take (i + 1)) (r ++ [(x, y)])) := Lib.hid (by
                    rw [HTT.out]
                    refine joined_push HJ.out (x, y) HXY.out HXT.out (fun _ r1 z1 e => ?_)
                    rw [hr] at e
                    have := (List.append_inj_right' e rfl)
                    cases this
                    show zy + 1 < x; omega)
                  go_wp2
                  go_quiet (fail)
                  go_upto_region 22 with fail
                  obtain ⟨W, hW⟩ : ∃ W, (wr.alloc (.cells #[.int .i64 x, .int .i64 y] 33)).drewN nq = W := ⟨_, rfl⟩
                  have v1 : W.cell? ⟨wr.heap.size, 0, none⟩ = some (.int .i64 x) := by rw [← hW]; exact b1
                  have v2 : W.cell? ⟨wr.heap.size, 1, none⟩ = some (.int .i64 y) := by rw [← hW]; exact b2
                  have HXW := Lib.hid (below_drewN HX2.out nq)
                  have HOW := Lib.hid (keepB HON.out (below_drewN (Below.refl _ (wr.alloc (.cells #[.int .i64 x, .int .i64 y] 33))) nq))
                  rw [hW] at HXW HOW
                  rw [hW]
                  clear hW
                  have HCC : Hid (spCells r ++ [.int .i64 x, .int .i64 y] = spCells (r ++ [(x, y)])) := Lib.hid (by rw [spCells_snoc])
                  have HLL : Hid (r.length + 1 = (r ++ [(x, y)]).length) := Lib.hid (by simp)
                  go_wp2_with (at_builtin; refine wpList_append_own _ rfl _ _ 28 rfl w2.heap.size 33 i0 (.agg #[.int .i64 0, .int .i64 0]) 2 16 Try.underlying28 HII.out HZ0.out HZ1.out HZ2.out rfl (by decide) _ _ (spCells r) rfl (keepB HOW.out ((Below.refl _ W).alloc (Nat.le_refl _) _)) ⟨W.heap.size, 0, none⟩ 1 1 [.int .i64 x, .int .i64 y] rfl rfl (cells_new2 W _ _ _) (by intro z hz; simp at hz; rcases hz with rfl | rfl <;> rfl) (by unfold maxLen; omega) (by omega) (by have := HXW.out.size; simp; omega) ?_; intro v' w3 hown hgrow _; rw [HCC.out] at hown; have HO3 := Lib.hid hown; have HB3 := Lib.hid ((HXW.out.alloc HXW.out.size (.cells #[.int .i64 x, .int .i64 y] 33)).grown hgrow (Nat.le_trans HXW.out.size (by simp)) (fun q hq => (HOW.out.lt q hq).1)); clear hown hgrow)
                  go_roundw
                  case rel => exact ⟨i + 1, by omega, by go_num, _, HJ2, Lib.hid (by have q := HO3.out; have q2 := HLL.out; rw [hm] at q2; rw [← q2]; exact q), HB3⟩
                  case measure => simp [intOf]; omega
            · obtain rfl : i = j := by omega
              have HJ2 : Hid (Joined l' r) := Lib.hid (by have q := HJ.out; rwa [List.take_of_length_le (by rw [LP.out]; exact Nat.le_refl _)] at q)
              go_wp2
              go_returns
              refine ⟨_, _, rfl, HWW.out.trans (HX.out.mono HWW.out.size), .inr (.inr ⟨HLE.out, HTK.out, rfl, r, HJ2.out.good, fun t => (HJ2.out.same t).trans ?_, ?_, own_lower HO.out HWW.out.size⟩)⟩
              · unfold mem; exact ⟨fun ⟨s, a, b⟩ => ⟨s, HP.out.mem_iff.1 a, b⟩, fun ⟨s, a, b⟩ => ⟨s, HP.out.mem_iff.2 a, b⟩⟩
              · have := HJ2.out.len; have := LP.out; rw [LN.out]; omega
theorem sort_none (w : World) : Calls Try.prog 43 #[.slice none 0 0, .func (.func 44) #[] #[]] w fun e w' => e = .returned (.tuple #[]) ∧ w' = w :=
  AnyF.slices_SortFunc_none Try.sortSp none 0 (.func (.func 44) #[] #[]) w
theorem make_all (ao : Option Addr) (n c : Nat) (l : List Sp) (hn : n ≤ 1000000) (w : World) (hl : SpAt w ao n c l) :
    Calls Try.prog 18 #[.slice ao n c] w fun e w' => ∃ (v : Value) (k : Int), e = .returned (.tuple #[v, .int .i64 k]) ∧ Below w.heap.size w w' ∧ Made w.heap.size w' l v k := make_any sort_none ao n c l hn w hl
theorem SpAt.take {w : World} {ao : Option Addr} {n c : Nat} {l : List Sp} (h : SpAt w ao n c l) (m : Nat) (hm : m ≤ n) : SpAt w ao m c (l.take m) := by
  have hl := h.len
  refine ⟨by rw [List.length_take]; omega, Nat.le_trans hm h.le, h.top, fun e => ⟨by have := (h.bare e).1; omega, (h.bare e).2⟩, fun h0 => ?_⟩
  obtain ⟨b, p, e, hc⟩ := h.here (by omega)
  refine ⟨b, p, e, fun i hi => ?_⟩
  rw [List.length_take] at hi
  rw [List.getElem_take]
  exact hc i (by omega)
end Go.Proofs.Ytjhbgedobkpdhaa
