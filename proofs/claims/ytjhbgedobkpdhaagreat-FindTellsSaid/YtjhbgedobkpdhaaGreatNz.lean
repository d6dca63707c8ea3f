/- Sp3, Sp4, Sp5, N1, N2, N3, N4, N5, N6, N7, N8 in one. -/
import Derived.Test.YtjhbgedobkpdhaaGreatSp2
import Derived.Test.YtjhbgedobkpdhaaGreatSp7
import Derived.LoopIn
import Derived.LoopNIn
import Derived.OwnWalkIn
import Derived.RangeFuncBound
import Derived.RangeFuncCalls
import Derived.RangeFuncLeaves
import Derived.RangeFuncNested
import Derived.Shelf.Abstract
import Derived.Shelf.RegionOpen
import Derived.TacticsInMore
import Derived.Test.YtjhbgedobkpdhaaGreatLai
import Derived.Laws.OwnMore
import Derived.BigRegion
import Derived.Deep.MidRow
import Derived.Shelf.SlSortCmp.NoneTotal
import Derived.Test.YtjhbgedobkpdhaaGreatEg
import Derived.Test.YtjhbgedobkpdhaaGreatG9
import Derived.Test.YtjhbgedobkpdhaaGreatSa1
import Derived.Test.YtjhbgedobkpdhaaGreatSp1
import Derived.Laws.AppendOwnNone
import Derived.Test.YtjhbgedobkpdhaaGreatC5
import Derived.Test.YtjhbgedobkpdhaaGreatC6
import Derived.StillTailTactics
namespace Go.Proofs.YtjhbgedobkpdhaaGreat
set_option linter.unusedVariables false
set_option linter.unusedSimpArgs false
open Go.ChangeShapes Go.WideShapes Go.ChangeAt Go.RowKit
attribute [local go_sem] Oper.semAt_some
/-- What lay below, and two boxes, lie as they lay. -/
structure Kx (n₀ x y : Nat) (W W' : World) : Prop where
  below : Below n₀ W W'
  x_ : W'.heap[x]? = W.heap[x]?
  y_ : W'.heap[y]? = W.heap[y]?
theorem Kx.refl (n₀ x y : Nat) (W : World) : Kx n₀ x y W W := ⟨Below.refl _ _, rfl, rfl⟩
theorem Kx.trans {n₀ x y : Nat} {A B C : World} (h : Kx n₀ x y A B) (k : Kx n₀ x y B C) : Kx n₀ x y A C := ⟨h.below.trans k.below, k.x_.trans h.x_, k.y_.trans h.y_⟩
theorem Kx.drewN {n₀ x y : Nat} {A B : World} (h : Kx n₀ x y A B) (k : Nat) : Kx n₀ x y A (B.drewN k) := ⟨below_drewN h.below k, h.x_, h.y_⟩
/-- An event whose tick fits. -/
abbrev EvB := { e : Ev // -1099511627777 ≤ e.1 ∧ e.1 ≤ 1099511627777 }
def encs (x : EvB) : Array Value := #[.int .i64 x.1.1, .agg #[.bool x.1.2.1, .bool x.1.2.2]]
def vals (E : List EvB) : List Ev := E.map (·.1)
/-- One event more, at a border of one of the two or of both. -/
theorem run_step {a b : List Sp} (ga : Good a) (gb : Good b) {E : List Ev} {T x : Int} (h : Run a b E T)
    (hx : T < x) (hx2 : x ≤ 1099511627777) (ha : cnt a T < 2 * a.length → x ≤ bd a (cnt a T)) (hb : cnt b T < 2 * b.length → x ≤ bd b (cnt b T)) :
    Run a b (E ++ [(x, odd (cnt a x), odd (cnt b x))]) x := by
  refine .more h hx hx2 (fun t h1 h2 => ⟨?_, ?_⟩)
  · by_cases q : cnt a T < 2 * a.length
    · exact (bd_next ga T q).2.1 t h1 (by have := ha q; omega)
    · have := cnt_le a T
      rw [cnt_all (by omega) h1]; omega
  · by_cases q : cnt b T < 2 * b.length
    · exact (bd_next gb T q).2.1 t h1 (by have := hb q; omega)
    · have := cnt_le b T
      rw [cnt_all (by omega) h1]; omega
theorem cnt_hit {a : List Sp} (ga : Good a) {T : Int} (q : cnt a T < 2 * a.length) {x : Int} (e : x = bd a (cnt a T)) : cnt a x = cnt a T + 1 := by rw [e]; exact (bd_next ga T q).2.2.1
theorem cnt_miss {a : List Sp} (ga : Good a) {T x : Int} (hx : T ≤ x) (e : cnt a T < 2 * a.length → x < bd a (cnt a T)) : cnt a x = cnt a T := by
  by_cases q : cnt a T < 2 * a.length
  · exact (bd_next ga T q).2.1 x hx (e q)
  · have := cnt_le a T
    rw [cnt_all (by omega) hx]; omega
theorem odd_int (n : Nat) : ((n : Int) % 2 == 1) = odd n := by
  unfold odd
  by_cases q : n % 2 = 1
  · have : (n : Int) % 2 = 1 := by omega
    rw [this, q]; rfl
  · have : (n : Int) % 2 = 0 := by omega
    have q2 : n % 2 = 0 := by omega
    rw [this, q2]; rfl
open Go.Sort (grow SWO PermIn SortedIn flatK putRowK HoldsK mapBlock putCells onCells size_flatK get_flatK alloc_eq_grow grow_grow)
def encSp (s : Sp) : List Value := [.int .i64 s.1, .int .i64 s.2]
def cfSp (x y : Sp) : Int := Lib.compareInt x.1 y.1
theorem ltSp (x y : Sp) : ltOf cfSp x y = decide (x.1 < y.1) := by
  unfold ltOf cfSp Lib.compareInt
  by_cases h1 : x.1 < y.1
  · simp [h1]
  · by_cases h2 : y.1 < x.1 <;> simp [h1, h2]
theorem swoSp : SWO (ltOf cfSp) where
  irrefl x := by rw [ltSp]; simp
  trans x y z h1 h2 := by rw [ltSp] at *; simp at *; omega
  ntrans x y z h1 h2 := by rw [ltSp] at *; simp at *; omega
theorem flat_sp (d : Array Sp) : (flatK encSp 2 d).toList = spCells d.toList := by
  apply List.ext_getElem?
  intro j
  by_cases hj : j < d.size * 2
  · have q0 := get_flatK encSp 2 d j hj
    have hi : j / 2 < d.toList.length := by rw [Array.length_toList]; omega
    have q := spCells_at d.toList (j / 2) hi
    have hs : j < (flatK encSp 2 d).size := by rw [size_flatK]; exact hj
    have e0 : d[j / 2]! = d.toList[j / 2] := by
      rw [getElem!_pos d (j / 2) (by omega)]; simp
    rw [getElem!_pos _ j hs, e0] at q0
    rw [Array.getElem?_toList, Array.getElem?_eq_getElem hs, q0]
    rcases Nat.mod_two_eq_zero_or_one j with e | e
    · have e2 : j / 2 * 2 = j := by omega
      rw [e2] at q; rw [q.1, e]; rfl
    · have e2 : j / 2 * 2 + 1 = j := by omega
      rw [e2] at q; rw [q.2, e]; rfl
  · rw [List.getElem?_eq_none (by rw [Array.length_toList, size_flatK]; omega), List.getElem?_eq_none (by rw [spCells_length, Array.length_toList]; omega)]
theorem holds_sp {w : World} {B g n cap : Nat} {l : List Sp} (hl : l.length = n) (hq : w.ownsRow B 38 2 (.slice (some ⟨g, 0, none⟩) n cap) n (spCells l)) : HoldsK encSp 2 w g 0 l.toArray := by
  intro j hj
  rw [size_flatK, List.size_toArray, hl] at hj
  rw [Nat.zero_add]
  refine ⟨?_, hq.frozenAt j⟩
  have e : spCells l = (flatK encSp 2 l.toArray).toList := (flat_sp l.toArray).symm
  rw [hq.cellAt j hj, e, Array.getElem?_toList]
  have hs : j < (flatK encSp 2 l.toArray).size := by rw [size_flatK, List.size_toArray, hl]; exact hj
  rw [Array.getElem?_eq_getElem hs, getElem!_pos _ j hs]; rfl
theorem sorted_row {w : World} {B g n cap : Nat} {l : List Sp} (hl : l.length = n) (hq : w.ownsRow B 38 2 (.slice (some ⟨g, 0, none⟩) n cap) n (spCells l)) (d' : Array Sp) (hd : d'.size = n) (m : Nat) (os : Array Obj) :
    (sortWorldK encSp 2 w g 0 m d' os).ownsRow B 38 2 (.slice (some ⟨g, 0, none⟩) n cap) n (spCells d'.toList) ∧ Below B w (sortWorldK encSp 2 w g 0 m d' os) := by
  have hH := holds_sp hl hq
  rcases hq.2 with ⟨h', _⟩ | ⟨g', cap', cur, h', hb, hg, h3, h4, h5, h6⟩
  · simp at h'
  · simp only [Value.slice.injEq, Option.some.injEq, Addr.mk.injEq, and_true, true_and] at h'
    obtain ⟨rfl, rfl⟩ := h'
    have lt : g < w.heap.size := (Array.getElem?_eq_some_iff.1 hg).1
    have hc := holdsK_sortWorldK_c encSp 2 w g 0 l.toArray d' m os hH lt (by rw [hd, List.size_toArray, hl])
    have hB : Below B w (sortWorldK encSp 2 w g 0 m d' os) := by
      refine ⟨rfl, rfl, rfl, size_sortWorldK_c encSp 2 w g 0 m d' os, fun k hk => ?_⟩
      unfold sortWorldK
      rw [Go.Sort.heap_grow_old _ _ (by rw [Go.Sort.size_putRowK]; show k < w.heap.size; omega)]
      show (w.heap.modify g _)[k]? = w.heap[k]?
      rw [Array.getElem?_modify, if_neg (by omega)]
    have hg2 : (sortWorldK encSp 2 w g 0 m d' os).heap[g]? = some (.cells (putCells id 0 (flatK encSp 2 d') cur) 38 (0, 0)) := by
      unfold sortWorldK
      rw [Go.Sort.heap_grow_old _ _ (by rw [Go.Sort.size_putRowK]; exact lt)]
      show (w.heap.modify g _)[g]? = _
      rw [Array.getElem?_modify, if_pos rfl, hg]; rfl
    refine ⟨⟨by rw [spCells_length, Array.length_toList, hd], .inr ⟨g, cap, _, rfl, hb, hg2, h3, h4, by simp [putCells, h5], ?_⟩⟩, hB⟩
    apply List.ext_getElem?
    intro j
    rw [List.getElem?_take]
    by_cases hj : j < n * 2
    · have hs : j < (flatK encSp 2 d').size := by rw [size_flatK, hd]; exact hj
      have q := (hc j hs).1
      rw [Nat.zero_add, cell_of_row _ g j _ _ _ hg2] at q
      rw [if_pos hj, ← flat_sp, Array.getElem?_toList, Array.getElem?_toList, q, Array.getElem?_eq_getElem hs, getElem!_pos _ j hs]; rfl
    · rw [if_neg hj, List.getElem?_eq_none (by rw [spCells_length, Array.length_toList, hd]; omega)]
set_option maxHeartbeats 1000000 in
theorem closure_sp (x y : Sp) (W : World) : Calls Tryz.prog 42 #[.agg #[.int .i64 x.1, .int .i64 x.2], .agg #[.int .i64 y.1, .int .i64 y.2]] W fun e w' => e = .returned (.int .i64 (cfSp x y)) ∧ ∃ q os', w' = grow (W.drewN q) os' := by
  have hcon := fun W' => AnyG.cmp_Compare_int Tryz.cmpInt x.1 y.1 W'
  change ∀ W', Calls Tryz.prog 43 _ _ _ at hcon
  unfold cfSp
  generalize Lib.compareInt x.1 y.1 = r at hcon ⊢
  go_enter Tryz.func42, Tryz.ntmps42
  go_wp2_with (go_at_call 43; refine (hcon _).mono ?_; rintro e w' ⟨rfl, rfl⟩)
  go_ret
  exact ⟨rfl, 0, _, by rw [alloc_eq_grow, alloc_eq_grow, grow_grow]; rfl⟩
theorem cmpLays_sp (blk off size : Nat) (w : World) : CmpLays Tryz.prog 42 #[] encSp 2 cfSp blk off size w := fun _ _ _ _ x y => closure_sp x y _
/-- Sorted by where they begin. -/
def Begun (l : List Sp) : Prop := ∀ i j (hi : i < l.length) (hj : j < l.length), i < j → l[i].1 ≤ l[j].1
theorem sort_any (B g n cap : Nat) (l : List Sp) (hl : l.length = n) (hn : n ≤ 1000000) (w : World) (hq : w.ownsRow B 38 2 (.slice (some ⟨g, 0, none⟩) n cap) n (spCells l)) :
    Calls Tryz.prog 41 #[.slice (some ⟨g, 0, none⟩) n cap, .func (.func 42) #[] #[]] w fun e w' => e = .returned (.tuple #[]) ∧ ∃ l', l'.Perm l ∧ Begun l' ∧ w'.ownsRow B 38 2 (.slice (some ⟨g, 0, none⟩) n cap) n (spCells l') ∧ Below B w w' := by
  subst hl
  have eg : ∀ args w, (callFunc 42 args).run Tryz.prog w = .ok (.enter 42 args) w := enters_of Tryz.func42 (by kernel_rfl) rfl
  have lt : g < w.heap.size := (hq.lt g rfl).2
  have hcon := AnyQ.slices_SortFunc Tryz.sortSp 2 Tryz.isAgg38 Tryz.sizeOf38 encSp (fun _ => rfl) (fun x v hv => by simp [encSp] at hv; rcases hv with rfl | rfl <;> rfl) cfSp swoSp 42 #[] g 0 cap l.toArray w eg (cmpLays_sp g 0 l.toArray.size w) (holds_sp rfl hq) lt (by rw [List.size_toArray]; omega)
  change Calls Tryz.prog 41 _ _ _ at hcon
  refine hcon.mono ?_
  rintro e w' ⟨rfl, d', m, os, hp, hs, rfl⟩
  have hd : d'.size = l.length := hp.1.trans List.size_toArray
  obtain ⟨r1, r2⟩ := sorted_row rfl hq d' hd m os
  refine ⟨rfl, d'.toList, ?_, ?_, r1, r2⟩
  · have q := hp.2.2
    rw [List.size_toArray] at q
    have e1 : d'.extract 0 l.length = d' := by rw [← hd]; simp
    have e2 : l.toArray.extract 0 l.length = l.toArray := by simp
    rw [e1, e2] at q
    exact q
  · intro i j hi hj hij
    rw [Array.length_toList] at hi hj
    have q := hs i j (Nat.zero_le _) hij (by rw [List.size_toArray, ← hd]; exact hj)
    rw [ltSp, getElem!_pos d' j hj, getElem!_pos d' i hi] at q
    simp at q
    simpa using q
set_option maxRecDepth 10000
theorem own_lower {w : World} {B B' e s n : Nat} {v : Value} {xs : List Value} (h : w.ownsRow B e s v n xs) (hb : B' ≤ B) : w.ownsRow B' e s v n xs := by
  obtain ⟨h1, h2⟩ := h
  refine ⟨h1, ?_⟩
  rcases h2 with h2 | ⟨g, cap, cur, e1, e2, e3, e4⟩
  · exact .inl h2
  · exact .inr ⟨g, cap, cur, e1, Nat.le_trans hb e2, e3, e4⟩
theorem sort_own (B n c : Nat) (ao : Option Addr) (l : List Sp) (hl : l.length = n) (hn : n ≤ 1000000) (w : World) (hq : w.ownsRow B 38 2 (.slice ao n c) n (spCells l))
    (hnone : ∀ w', Calls Tryz.prog 41 #[.slice none 0 0, .func (.func 42) #[] #[]] w' fun e w'' => e = .returned (.tuple #[]) ∧ w'' = w') :
    Calls Tryz.prog 41 #[.slice ao n c, .func (.func 42) #[] #[]] w fun e w' => e = .returned (.tuple #[]) ∧ ∃ l', l'.Perm l ∧ Begun l' ∧ SpAt w' ao n c l' ∧ Below B w w' := by
  rcases hq.2 with ⟨e1, e2⟩ | ⟨g, cap, cur, e1, _⟩
  · cases e1
    obtain rfl : l = [] := List.eq_nil_of_length_eq_zero hl
    exact (hnone w).mono fun e w' ⟨h1, h2⟩ => ⟨h1, [], List.Perm.refl _, (fun i j hi => absurd hi (Nat.not_lt_zero _)), by subst h2; exact SpAt.nil _, by subst h2; exact Below.refl _ _⟩
  · cases e1
    exact (sort_any B g n c l hl hn w hq).mono fun e w' ⟨h1, l', h2, h3, h4, h5⟩ => by
      obtain ⟨ao', c', e5, hs⟩ := own_sp (h2.length_eq.trans hl) h4
      cases e5
      exact ⟨h1, l', h2, h3, hs, h5⟩
/-- What Make tells. -/
def Made (B : Nat) (w' : World) (l : List Sp) (v : Value) (k : Int) : Prop :=
  ((∃ s ∈ l, s.2 < s.1) ∧ k = 2 ∧ v = .slice none 0 0) ∨ ((∀ s ∈ l, s.1 ≤ s.2) ∧ (∃ s ∈ l, ¬ TkSp s) ∧ k = 20 ∧ v = .slice none 0 0) ∨
  ((∀ s ∈ l, s.1 ≤ s.2) ∧ (∀ s ∈ l, TkSp s) ∧ k = 0 ∧ ∃ r, Good r ∧ (∀ t, mem r t ↔ mem l t) ∧ r.length ≤ l.length ∧ w'.ownsRow B 38 2 v r.length (spCells r))
theorem tk_iff (x y : Int) : TkSp (x, y) ↔ tickB x = true ∧ tickB y = true := by rw [tickB_iff, tickB_iff]; rfl
set_option maxHeartbeats 4000000 in
theorem make_any (hnone : ∀ w', Calls Tryz.prog 41 #[.slice none 0 0, .func (.func 42) #[] #[]] w' fun e w'' => e = .returned (.tuple #[]) ∧ w'' = w')
    (ao : Option Addr) (n c : Nat) (l : List Sp) (hn : n ≤ 1000000) (w : World) (hl : SpAt w ao n c l) :
    Calls Tryz.prog 14 #[.slice ao n c] w fun e w' => ∃ (v : Value) (k : Int), e = .returned (.tuple #[v, .int .i64 k]) ∧ Below w.heap.size w w' ∧ Made w.heap.size w' l v k := by
  have HNO := Lib.hid hnone
  obtain ⟨i0, hi, hz0, hz1, hz2⟩ := info_parts info38
  have HL := Lib.hid hl
  have LN := Lib.hid hl.len
  have HII := Lib.hid hi
  have HZ0 := Lib.hid hz0
  have HZ1 := Lib.hid hz1
  have HZ2 := Lib.hid hz2
  clear hl hnone hi hz0 hz1 hz2
  go_enter Tryz.func14, Tryz.ntmps14
  go_wp2
  go_loopw [15] (fun ii wr => ∃ i : Nat, i ≤ n ∧ ii = .int .i64 i ∧ Hid (∀ s ∈ l.take i, s.1 ≤ s.2) ∧ Hid (Below w.heap.size w wr)) (fun ii _ => n - (intOf ii).toNat)
  case atStart => exact ⟨0, Nat.zero_le _, rfl, Lib.hid (fun s h => by cases h), Lib.hid (Below.refl _ _)⟩
  case round =>
    obtain ⟨i, hi, rfl, HI, HW⟩ := hrel
    by_cases ilt : i < n
    · obtain ⟨b, p, rfl, hc⟩ := HL.out.here (by omega)
      have hil : i < l.length := by rw [LN.out]; exact ilt
      have c1 := cell_keep (hc i hil).1 HW.out
      have c2 := cell_keep (hc i hil).2 HW.out
      have HT := Lib.hid (fun s => mem_take_succ (s := s) hil)
      have HM := Lib.hid (List.getElem_mem hil)
      have i0' : (0 : Int) ≤ (i : Int) := by omega
      have i1' : (i : Int) < (n : Int) := by omega
      clear hc
      obtain ⟨s, hs⟩ : ∃ z, l[i] = z := ⟨_, rfl⟩
      rw [hs] at c1 c2 HT HM
      clear hs hil
      obtain ⟨x, y⟩ := s
      simp only at c1 c2
      have b1 := (box_cells wr (.int .i64 x) (.int .i64 y) 38).1
      have b2 := (box_cells wr (.int .i64 x) (.int .i64 y) 38).2
      have HW2 := Lib.hid (HW.out.alloc HW.out.size (.cells #[.int .i64 x, .int .i64 y] 38))
      by_cases h : y < x
      · go_wp2
        go_returns
        exact ⟨_, _, rfl, HW2.out, .inl ⟨⟨_, HM.out, h⟩, rfl, rfl⟩⟩
      · have HI2 : Hid (∀ s ∈ l.take (i + 1), s.1 ≤ s.2) := Lib.hid (fun s hs => by
          rcases (HT.out s).1 hs with g | rfl
          · exact HI.out s g
          · show x ≤ y; omega)
        go_wp2
        go_roundw
        case rel => exact ⟨i + 1, by omega, by go_num, HI2, HW2⟩
        case measure => simp [intOf]; omega
    · obtain rfl : i = n := by omega
      have HLE : Hid (∀ s ∈ l, s.1 ≤ s.2) := Lib.hid (fun s hs => HI.out s (by rw [List.take_of_length_le (by rw [LN.out]; exact Nat.le_refl _)]; exact hs))
      clear HI
      go_wp2
      go_loopw [27] (fun ii wi => ∃ j : Nat, j ≤ i ∧ ii = .int .i64 j ∧ Hid (∀ s ∈ l.take j, TkSp s) ∧ Hid (Below w.heap.size w wi)) (fun ii _ => i - (intOf ii).toNat)
      case atStart => exact ⟨0, Nat.zero_le _, rfl, Lib.hid (fun s h => by cases h), HW⟩
      case round =>
        obtain ⟨j, hj, rfl, HJ, HWi⟩ := hrel
        by_cases jlt : j < i
        · obtain ⟨b, p, rfl, hc⟩ := HL.out.here (by omega)
          have hil : j < l.length := by rw [LN.out]; exact jlt
          have c1 := cell_keep (hc j hil).1 HWi.out
          have c2 := cell_keep (hc j hil).2 HWi.out
          have HT := Lib.hid (fun s => mem_take_succ (s := s) hil)
          have HM := Lib.hid (List.getElem_mem hil)
          have i0' : (0 : Int) ≤ (j : Int) := by omega
          have i1' : (j : Int) < (i : Int) := by omega
          clear hc
          obtain ⟨s, hs⟩ : ∃ z, l[j] = z := ⟨_, rfl⟩
          rw [hs] at c1 c2 HT HM
          clear hs hil
          obtain ⟨x, y⟩ := s
          simp only at c1 c2
          have b1 := (box_cells wr (.int .i64 x) (.int .i64 y) 38).1
          have b2 := (box_cells wr (.int .i64 x) (.int .i64 y) 38).2
          have HW2 := Lib.hid (HWi.out.alloc HWi.out.size (.cells #[.int .i64 x, .int .i64 y] 38))
          have T1 := Lib.hid (fun (w : World) => tick_any x w)
          have T2 := Lib.hid (fun (w : World) => tick_any y w)
          have TI := Lib.hid (tk_iff x y)
          cases h1 : tickB x
          · have HNT : Hid (¬ TkSp (x, y)) := Lib.hid (fun q => by have := (TI.out.1 q).1; rw [h1] at this; cases this)
            rw [h1] at T1
            clear h1
            go_wp2_with (go_at_call 39; with_reducible refine (T1.out _).mono ?_; rintro e w3 ⟨rfl, rfl⟩)
            go_returns
            exact ⟨_, _, rfl, HW2.out, .inr (.inl ⟨HLE.out, ⟨_, HM.out, HNT.out⟩, rfl, rfl⟩)⟩
          · cases h2 : tickB y
            · have HNT : Hid (¬ TkSp (x, y)) := Lib.hid (fun q => by have := (TI.out.1 q).2; rw [h2] at this; cases this)
              rw [h1] at T1
              rw [h2] at T2
              clear h1 h2
              go_wp2_with (first | (go_at_call 39; with_reducible refine (T1.out _).mono ?_; rintro e w3 ⟨rfl, rfl⟩) | (go_at_call 39; with_reducible refine (T2.out _).mono ?_; rintro e w4 ⟨rfl, rfl⟩))
              go_returns
              exact ⟨_, _, rfl, HW2.out, .inr (.inl ⟨HLE.out, ⟨_, HM.out, HNT.out⟩, rfl, rfl⟩)⟩
            · have HJ2 : Hid (∀ s ∈ l.take (j + 1), TkSp s) := Lib.hid (fun s hs => by
                rcases (HT.out s).1 hs with g | rfl
                · exact HJ.out s g
                · exact TI.out.2 ⟨h1, h2⟩)
              rw [h1] at T1
              rw [h2] at T2
              clear h1 h2
              go_wp2_with (first | (go_at_call 39; with_reducible refine (T1.out _).mono ?_; rintro e w3 ⟨rfl, rfl⟩) | (go_at_call 39; with_reducible refine (T2.out _).mono ?_; rintro e w4 ⟨rfl, rfl⟩))
              go_roundw
              case rel => exact ⟨j + 1, by omega, by go_num, HJ2, HW2⟩
              case measure => simp [intOf]; omega
        · obtain rfl : j = i := by omega
          have HTK : Hid (∀ s ∈ l, TkSp s) := Lib.hid (fun s hs => HJ.out s (by rw [List.take_of_length_le (by rw [LN.out]; exact Nat.le_refl _)]; exact hs))
          clear HJ
          have CL := Lib.hid (clone_any ao j c l hn wr (HL.out.keep HWi.out))
          go_upto_region 14 with (go_at_call 40; with_reducible refine CL.out.mono ?_; rintro e w1 ⟨v, rfl, hq1, hb1⟩)
          obtain ⟨ao1, cc1, rfl, _⟩ := own_sp LN.out hq1
          have SO := Lib.hid (sort_own wr.heap.size j cc1 ao1 l LN.out hn w1 hq1 HNO.out)
          have HW1 := Lib.hid (HWi.out.trans (hb1.mono HWi.out.size))
          have HSZ := Lib.hid hb1.size
          clear hq1 hb1 CL
          go_upto_region 15 with (go_at_call 41; with_reducible refine SO.out.mono ?_; rintro e w2 ⟨rfl, l', hp, hb, hs, hb2⟩)
          have HWW := Lib.hid (HW1.out.trans ((Below.mono hb2 HWi.out.size).mono (Nat.le_refl _)))
          have LP : Hid (l'.length = j) := Lib.hid (hp.length_eq.trans LN.out)
          have HP := Lib.hid hp
          have HBG := Lib.hid hb
          have HL2 := Lib.hid hs
          clear hp hb hs hb2 SO
          go_wp2
          go_loopw [9, 48] (fun rv ii wx => ∃ i : Nat, i ≤ j ∧ ii = .int .i64 i ∧ ∃ r, Hid (Joined (l'.take i) r) ∧ Hid (wx.ownsRow w2.heap.size 38 2 rv r.length (spCells r)) ∧ Hid (Below w2.heap.size w2 wx)) (fun _ ii _ => j - (intOf ii).toNat)
          case atStart => exact ⟨0, Nat.zero_le _, rfl, [], Lib.hid joined_nil, Lib.hid (World.ownsRow_nil _ _ _ _), Lib.hid (Below.refl _ _)⟩
          case round =>
            obtain ⟨i, hi, rfl, r, HJ, HO, HX⟩ := hrel
            by_cases ilt : i < j
            · have hil : i < l'.length := by rw [LP.out]; exact ilt
              obtain ⟨b', p', rfl, hc⟩ := HL2.out.here (by omega)
              have c1 := cell_keep (hc i hil).1 HX.out
              have c2 := cell_keep (hc i hil).2 HX.out
              have HTT := Lib.hid (List.take_succ_eq_append_getElem hil)
              have HM := Lib.hid (List.getElem_mem hil)
              have HBB : Hid (∀ q ∈ l'.take i, q.1 ≤ l'[i].1) := Lib.hid (fun q hq => by
                obtain ⟨t, ht, rfl⟩ := List.getElem_of_mem hq
                rw [List.length_take] at ht
                rw [List.getElem_take]
                exact HBG.out t i (by omega) hil (by omega))
              have i0' : (0 : Int) ≤ (i : Int) := by omega
              have i1' : (i : Int) < (j : Int) := by omega
              clear hc
              obtain ⟨s, hs⟩ : ∃ z, l'[i] = z := ⟨_, rfl⟩
              rw [hs] at c1 c2 HTT HM HBB
              clear hs hil
              obtain ⟨x, y⟩ := s
              simp only at c1 c2 HBB
              have HXY : Hid (x ≤ y) := Lib.hid (HLE.out (x, y) (HP.out.mem_iff.1 HM.out))
              have HXT : Hid (TkSp (x, y)) := Lib.hid (HTK.out (x, y) (HP.out.mem_iff.1 HM.out))
              have b1 := (box_cells wr (.int .i64 x) (.int .i64 y) 38).1
              have b2 := (box_cells wr (.int .i64 x) (.int .i64 y) 38).2
              have KA := Lib.hid ((Below.refl _ wr).alloc (Nat.le_refl _) (.cells #[.int .i64 x, .int .i64 y] 38))
              have HX2 := Lib.hid (HX.out.alloc HX.out.size (.cells #[.int .i64 x, .int .i64 y] 38))
              have HO2 := Lib.hid (keepB HO.out KA.out)
              have hml := HJ.out.len
              rw [List.length_take] at hml
              obtain ⟨m, hm⟩ : ∃ m, r.length = m := ⟨_, rfl⟩
              have HOm := HO2.out
              rw [hm] at HOm hml
              obtain ⟨rao, rc, rfl, hrs⟩ := own_sp hm HOm
              have HON := Lib.hid HOm
              have HRS := Lib.hid hrs
              clear HOm hrs HO HO2
              have hmx : m ≤ 1000000 := by omega
              by_cases h0 : r = []
              · have hm0 : m = 0 := by rw [← hm, h0]; rfl
                subst hm0
                have HJ2 : Hid (Joined (l'.take (i + 1)) (r ++ [(x, y)])) := Lib.hid (by rw [HTT.out]; exact joined_push HJ.out (x, y) HXY.out HXT.out (fun e => absurd h0 e))
                go_wp2
                go_quiet (fail)
                go_upto_region 22 with fail
                obtain ⟨W, hW⟩ : ∃ W, (wr.alloc (.cells #[.int .i64 x, .int .i64 y] 38)).drewN nq = W := ⟨_, rfl⟩
                have v1 : W.cell? ⟨wr.heap.size, 0, none⟩ = some (.int .i64 x) := by rw [← hW]; exact b1
                have v2 : W.cell? ⟨wr.heap.size, 1, none⟩ = some (.int .i64 y) := by rw [← hW]; exact b2
                have HXW := Lib.hid (below_drewN HX2.out nq)
                have HOW := Lib.hid (keepB HON.out (below_drewN (Below.refl _ (wr.alloc (.cells #[.int .i64 x, .int .i64 y] 38))) nq))
                rw [hW] at HXW HOW
                rw [hW]
                clear hW
                have HCC : Hid (spCells r ++ [.int .i64 x, .int .i64 y] = spCells (r ++ [(x, y)])) := Lib.hid (by rw [spCells_snoc])
                have HLL : Hid (r.length + 1 = (r ++ [(x, y)]).length) := Lib.hid (by simp)
                go_wp2_with (at_builtin; refine wpList_append_own _ rfl _ _ 27 rfl w2.heap.size 38 i0 (.agg #[.int .i64 0, .int .i64 0]) 2 16 Tryz.underlying27 HII.out HZ0.out HZ1.out HZ2.out rfl (by decide) _ _ (spCells r) rfl (keepB HOW.out ((Below.refl _ W).alloc (Nat.le_refl _) _)) ⟨W.heap.size, 0, none⟩ 1 1 [.int .i64 x, .int .i64 y] rfl rfl (cells_new2 W _ _ _) (by intro z hz; simp at hz; rcases hz with rfl | rfl <;> rfl) (by unfold maxLen; omega) (by omega) (by have := HXW.out.size; simp; omega) ?_; intro v' w3 hown hgrow _; rw [HCC.out] at hown; have HO3 := Lib.hid hown; have HB3 := Lib.hid ((HXW.out.alloc HXW.out.size (.cells #[.int .i64 x, .int .i64 y] 38)).grown hgrow (Nat.le_trans HXW.out.size (by simp)) (fun q hq => (HOW.out.lt q hq).1)); clear hown hgrow)
                go_roundw
                case rel => exact ⟨i + 1, by omega, by go_num, _, HJ2, Lib.hid (by have q := HO3.out; have q2 := HLL.out; rw [hm] at q2; rw [← q2]; exact q), HB3⟩
                case measure => simp [intOf]; omega
              · obtain ⟨z, r0, hr⟩ : ∃ z r0, r = r0 ++ [z] := ⟨r.getLast h0, r.dropLast, (List.dropLast_concat_getLast h0).symm⟩
                obtain ⟨k, hk⟩ : ∃ k, r0.length = k := ⟨_, rfl⟩
                have hmk : m = k + 1 := by rw [← hm, hr]; simp [hk]
                subst hmk
                obtain ⟨g, rfl⟩ : ∃ g, rao = some ⟨g, 0, none⟩ := by
                  rcases HON.out.2 with ⟨e, _⟩ | ⟨g, cap, cur, e, _⟩
                  · cases e
                  · cases e; exact ⟨g, rfl⟩
                have hkr : k < r.length := by omega
                have q0 := spCells_at r k hkr
                have e0 : r[k] = z := by subst hr; subst hk; simp
                rw [e0] at q0
                obtain ⟨zx, zy⟩ := z
                simp only at q0
                have d2 := HON.out.cellAt (k * 2 + 1) (by omega)
                rw [q0.2] at d2
                have d3 := HON.out.frozenAt (k * 2 + 1)
                have hzz := (rt_snoc r0 _ (zx, zy)).1 (by rw [← hr]; exact HJ.out.good)
                have hz0 := nxt_le hzz.1
                have hz1 : -1099511627776 ≤ zy := by have := hzz.2.1; have := hzz.2.2.1; simp only at *; omega
                have hz2 : zy ≤ 1099511627776 := hzz.2.2.2
                have HZX : Hid (zx ≤ x) := Lib.hid (by
                  obtain ⟨q, hq, e⟩ := HJ.out.starts (zx, zy) (by rw [hr]; simp)
                  have := HBB.out q hq
                  simp only at e; omega)
                clear hzz hz0
                have e1 : IntKind.i64.wrap (((k + 1 : Nat) : Int) - 1) = (k : Int) := by rw [IntWalk.i64_in _ (by omega)]; omega
                have k0 : (0 : Int) ≤ (k : Int) := by omega
                have k1 : (k : Int) < ((k + 1 : Nat) : Int) := by omega
                have k2 : k < k + 1 := by omega
                have k3 : (0 : Int) < ((k + 1 : Nat) : Int) := by omega
                clear q0 e0
                by_cases hcmp : x ≤ zy + 1
                · go_wp2
                  go_quiet (fail)
                  go_upto_region 21 with fail
                  obtain ⟨W, hW⟩ : ∃ W, (wr.alloc (.cells #[.int .i64 x, .int .i64 y] 38)).drewN nq = W := ⟨_, rfl⟩
                  have v1 : W.cell? ⟨wr.heap.size, 0, none⟩ = some (.int .i64 x) := by rw [← hW]; exact b1
                  have v2 : W.cell? ⟨wr.heap.size, 1, none⟩ = some (.int .i64 y) := by rw [← hW]; exact b2
                  have v3 : W.cell? ⟨g, k * 2 + 1, none⟩ = some (.int .i64 zy) := by rw [← hW]; exact d2
                  have v4 : W.frozen? ⟨g, k * 2 + 1, none⟩ = false := by rw [← hW]; exact d3
                  have HXW := Lib.hid (below_drewN HX2.out nq)
                  have HOW := Lib.hid (keepB HON.out (below_drewN (Below.refl _ (wr.alloc (.cells #[.int .i64 x, .int .i64 y] 38))) nq))
                  rw [hW] at HXW HOW
                  rw [hW]
                  clear hW d2 d3
                  have HJ2 : Hid (Joined (l'.take (i + 1)) (r0 ++ [(zx, max zy y)])) := Lib.hid (by rw [HTT.out]; exact joined_grow (by rw [← hr]; exact HJ.out) (x, y) HXY.out HXT.out HZX.out hcmp _ rfl)
                  have HSET : Hid ((spCells r).set (k * 2 + 1) (.int .i64 (max zy y)) = spCells (r0 ++ [(zx, max zy y)])) := Lib.hid (by
                    have hlen : (spCells r0).length = k * 2 := by rw [spCells_length, hk]
                    rw [hr, spCells_snoc, spCells_snoc, List.set_append_right _ _ (by omega), hlen, show k * 2 + 1 - k * 2 = 1 by omega]; rfl)
                  have HLL : Hid (k + 1 = (r0 ++ [(zx, max zy y)]).length) := Lib.hid (by simp [hk])
                  have hst := (HOW.out.stored (k * 2 + 1) (.int .i64 (max zy y))).1
                  rw [HSET.out] at hst
                  have HO3 := Lib.hid hst
                  have HB3 := Lib.hid (HXW.out.setCell (p := ⟨g, k * 2 + 1, none⟩) (HOW.out.lt g rfl).1 (.int .i64 (max zy y)))
                  clear hst
                  go_region
                  go_wp2
                  go_roundw
                  case rel => exact ⟨i + 1, by omega, by go_num, _, HJ2, Lib.hid (by rw [← HLL.out]; exact HO3.out.drew), Lib.hid (HB3.out.drew)⟩
                  case measure => simp [intOf]; omega
                · have HJ2 : Hid (Joined (l'.take (i + 1)) (r ++ [(x, y)])) := Lib.hid (by
                    rw [HTT.out]
                    refine joined_push HJ.out (x, y) HXY.out HXT.out (fun _ r1 z1 e => ?_)
                    rw [hr] at e
                    have := (List.append_inj_right' e rfl)
                    cases this
                    show zy + 1 < x; omega)
                  go_wp2
                  go_quiet (fail)
                  go_upto_region 22 with fail
                  obtain ⟨W, hW⟩ : ∃ W, (wr.alloc (.cells #[.int .i64 x, .int .i64 y] 38)).drewN nq = W := ⟨_, rfl⟩
                  have v1 : W.cell? ⟨wr.heap.size, 0, none⟩ = some (.int .i64 x) := by rw [← hW]; exact b1
                  have v2 : W.cell? ⟨wr.heap.size, 1, none⟩ = some (.int .i64 y) := by rw [← hW]; exact b2
                  have HXW := Lib.hid (below_drewN HX2.out nq)
                  have HOW := Lib.hid (keepB HON.out (below_drewN (Below.refl _ (wr.alloc (.cells #[.int .i64 x, .int .i64 y] 38))) nq))
                  rw [hW] at HXW HOW
                  rw [hW]
                  clear hW
                  have HCC : Hid (spCells r ++ [.int .i64 x, .int .i64 y] = spCells (r ++ [(x, y)])) := Lib.hid (by rw [spCells_snoc])
                  have HLL : Hid (r.length + 1 = (r ++ [(x, y)]).length) := Lib.hid (by simp)
                  go_wp2_with (at_builtin; refine wpList_append_own _ rfl _ _ 27 rfl w2.heap.size 38 i0 (.agg #[.int .i64 0, .int .i64 0]) 2 16 Tryz.underlying27 HII.out HZ0.out HZ1.out HZ2.out rfl (by decide) _ _ (spCells r) rfl (keepB HOW.out ((Below.refl _ W).alloc (Nat.le_refl _) _)) ⟨W.heap.size, 0, none⟩ 1 1 [.int .i64 x, .int .i64 y] rfl rfl (cells_new2 W _ _ _) (by intro z hz; simp at hz; rcases hz with rfl | rfl <;> rfl) (by unfold maxLen; omega) (by omega) (by have := HXW.out.size; simp; omega) ?_; intro v' w3 hown hgrow _; rw [HCC.out] at hown; have HO3 := Lib.hid hown; have HB3 := Lib.hid ((HXW.out.alloc HXW.out.size (.cells #[.int .i64 x, .int .i64 y] 38)).grown hgrow (Nat.le_trans HXW.out.size (by simp)) (fun q hq => (HOW.out.lt q hq).1)); clear hown hgrow)
                  go_roundw
                  case rel => exact ⟨i + 1, by omega, by go_num, _, HJ2, Lib.hid (by have q := HO3.out; have q2 := HLL.out; rw [hm] at q2; rw [← q2]; exact q), HB3⟩
                  case measure => simp [intOf]; omega
            · obtain rfl : i = j := by omega
              have HJ2 : Hid (Joined l' r) := Lib.hid (by have q := HJ.out; rwa [List.take_of_length_le (by rw [LP.out]; exact Nat.le_refl _)] at q)
              go_wp2
              go_returns
              refine ⟨_, _, rfl, HWW.out.trans (HX.out.mono HWW.out.size), .inr (.inr ⟨HLE.out, HTK.out, rfl, r, HJ2.out.good, fun t => (HJ2.out.same t).trans ?_, ?_, own_lower HO.out HWW.out.size⟩)⟩
              · unfold mem; exact ⟨fun ⟨s, a, b⟩ => ⟨s, HP.out.mem_iff.1 a, b⟩, fun ⟨s, a, b⟩ => ⟨s, HP.out.mem_iff.2 a, b⟩⟩
              · have := HJ2.out.len; have := LP.out; rw [LN.out]; omega
theorem sort_none (w : World) : Calls Tryz.prog 41 #[.slice none 0 0, .func (.func 42) #[] #[]] w fun e w' => e = .returned (.tuple #[]) ∧ w' = w :=
  AnyF.slices_SortFunc_none Tryz.sortSp none 0 (.func (.func 42) #[] #[]) w
theorem make_all (ao : Option Addr) (n c : Nat) (l : List Sp) (hn : n ≤ 1000000) (w : World) (hl : SpAt w ao n c l) :
    Calls Tryz.prog 14 #[.slice ao n c] w fun e w' => ∃ (v : Value) (k : Int), e = .returned (.tuple #[v, .int .i64 k]) ∧ Below w.heap.size w w' ∧ Made w.heap.size w' l v k := make_any sort_none ao n c l hn w hl
theorem SpAt.take {w : World} {ao : Option Addr} {n c : Nat} {l : List Sp} (h : SpAt w ao n c l) (m : Nat) (hm : m ≤ n) : SpAt w ao m c (l.take m) := by
  have hl := h.len
  refine ⟨by rw [List.length_take]; omega, Nat.le_trans hm h.le, h.top, fun e => ⟨by have := (h.bare e).1; omega, (h.bare e).2⟩, fun h0 => ?_⟩
  obtain ⟨b, p, e, hc⟩ := h.here (by omega)
  refine ⟨b, p, e, fun i hi => ?_⟩
  rw [List.length_take] at hi
  rw [List.getElem_take]
  exact hc i (by omega)
structure NearF (F : Fv) : Prop where
  per : F.P ≤ 200
  core : ∀ l ∈ F.cs, l ≠ [] → -100 ≤ hullA l ∧ hullB l ≤ 100
  odd : ∀ o ∈ F.os, -100 ≤ o.1 ∧ o.1 ≤ 100
  few : F.cn ≤ 12
/-- An index that is looked at. -/
def Seen (i : Int) : Prop := -6000 ≤ i ∧ i ≤ 6000
theorem seen_inR {i : Int} (h : Seen i) : InR i := ⟨by have := h.1; omega, by have := h.2; omega⟩
/-- The core's set of an index: its turn, and where it lies. -/
theorem near_cg {F : Fv} (nf : NearF F) (ok : F.Ok) {i : Int} (h : cg F.cs F.P F.N i ≠ []) : ∃ q l, 0 < F.N ∧ F.N ≤ 12 ∧ 1 ≤ F.P ∧ l ∈ F.cs ∧ l ≠ [] ∧ Good l ∧ cg F.cs F.P F.N i = moved l (F.P * q) ∧ F.N * q ≤ i ∧ i < F.N * q + F.N ∧ -100 ≤ hullA l ∧ hullB l ≤ 100 := by
  have mm := ok.meas
  unfold cg at h ⊢
  by_cases q : 0 < F.N ∧ F.N = F.cs.length
  · rw [if_pos q] at h ⊢
    have hl : cset F.cs F.N i ≠ [] := fun e => h (by rw [e]; rfl)
    have hm : cset F.cs F.N i ∈ F.cs := by
      unfold cset at hl ⊢
      rw [List.getD_eq_getElem?_getD] at hl ⊢
      cases e : F.cs[(i.fmod F.N).toNat]? with
      | none => rw [e] at hl; exact absurd rfl hl
      | some l => exact List.mem_of_getElem? e
    obtain ⟨c1, c2⟩ := nf.core _ hm hl
    have a := fmod_eq i F.N
    obtain ⟨b1, b2⟩ := fmod_nat i q.1
    have few := nf.few
    have hN : F.N ≤ 12 ∧ 1 ≤ F.P := by
      rcases mm with ⟨z, _, _⟩ | ⟨_, z, p, _⟩
      · omega
      · exact ⟨by omega, p⟩
    exact ⟨i.fdiv F.N, _, q.1, hN.1, hN.2, hm, hl, ok.core _ hm, rfl, by omega, by omega, c1, c2⟩
  · rw [if_neg q] at h; exact absurd rfl h
theorem near_prod {P q : Int} (h1 : 1 ≤ P) (h2 : P ≤ 200) (a : -7000 ≤ q) (b : q ≤ 7000) : -1400000 ≤ P * q ∧ P * q ≤ 1400000 := by
  have h0 : 0 ≤ P := by omega
  have e1 := Int.mul_le_mul_of_nonneg_left b h0
  have e2 := Int.mul_le_mul_of_nonneg_left a h0
  omega
theorem prod_ge {P q k : Int} (h1 : 1 ≤ P) (hk : 0 ≤ k) (a : k ≤ q) : k ≤ P * q := by
  have e1 := Int.mul_le_mul_of_nonneg_right h1 (by omega : (0 : Int) ≤ q)
  rw [Int.one_mul] at e1
  omega
theorem prod_le {P q k : Int} (h1 : 1 ≤ P) (hk : 0 ≤ k) (a : q ≤ -k) : P * q ≤ -k := by
  have e1 := prod_ge h1 hk (by omega : k ≤ -q)
  rw [Int.mul_neg] at e1
  omega
theorem turn_ge {N q i k : Int} (h1 : 0 < N) (h2 : N ≤ 12) (a : i < N * q + N) (hk : 0 ≤ k) (b : 12 * k + 12 ≤ i) : k ≤ q := by
  rcases Int.lt_or_le q k with z | z
  · exfalso
    have : q + 1 ≤ k := z
    have e := Int.mul_le_mul_of_nonneg_left this (Int.le_of_lt h1)
    rw [Int.mul_add, Int.mul_one] at e
    have f := Int.mul_le_mul_of_nonneg_right h2 hk
    omega
  · exact z
theorem turn_le' {N q i k : Int} (h1 : 0 < N) (h2 : N ≤ 12) (a : N * q ≤ i) (hk : 0 ≤ k) (b : i < -(12 * k)) : q ≤ -k - 1 := by
  rcases Int.lt_or_le q (-k) with z | z
  · omega
  · exfalso
    have e := Int.mul_le_mul_of_nonneg_left z (Int.le_of_lt h1)
    rw [Int.mul_neg] at e
    have f := Int.mul_le_mul_of_nonneg_right h2 hk
    omega
theorem near_gr {F : Fv} (nf : NearF F) {i : Int} (h : i < -100 ∨ 100 < i) : gr F i = cg F.cs F.P F.N i := by
  have e : exc F.os i = none := exc_none.2 (fun o ho e => by have := nf.odd o ho; omega)
  unfold gr; rw [e]
theorem far_up {F : Fv} (nf : NearF F) (ok : F.Ok) {i : Int} (h : 6000 < i) (ne : gr F i ≠ []) : 399 ≤ hullA (gr F i) := by
  rw [near_gr nf (by omega)] at ne ⊢
  obtain ⟨q, l, n1, n2, p1, hm, hl, g, e, a, b, c1, c2⟩ := near_cg nf ok ne
  have hq := turn_ge n1 n2 b (by omega : (0 : Int) ≤ 499) (by omega)
  have := prod_ge p1 (by omega) hq
  rw [e, hullA_moved hl]; omega
theorem far_down {F : Fv} (nf : NearF F) (ok : F.Ok) {i : Int} (h : i < -6000) (ne : gr F i ≠ []) : hullB (gr F i) ≤ -400 := by
  rw [near_gr nf (by omega)] at ne ⊢
  obtain ⟨q, l, n1, n2, p1, hm, hl, g, e, a, b, c1, c2⟩ := near_cg nf ok ne
  have hq := turn_le' n1 n2 a (by omega : (0 : Int) ≤ 500) (by omega)
  have := prod_le p1 (by omega : (0 : Int) ≤ 501) (by omega : q ≤ -501)
  rw [e, hullB_moved hl]; omega
theorem near_seen {F : Fv} (nf : NearF F) (ok : F.Ok) {i : Int} (h : Seen i) : Fit (gr F i) := by
  obtain ⟨h1, h2⟩ := h
  unfold gr
  cases e : exc F.os i with
  | some l =>
    obtain ⟨n, hn, a, b⟩ := exc_some e
    have := (ok.odd.good _ (List.getElem_mem hn)).1
    rw [b] at this
    exact fit_good this
  | none =>
    show Fit (cg F.cs F.P F.N i)
    by_cases ne : cg F.cs F.P F.N i = []
    · rw [ne]; intro s hs; cases hs
    · obtain ⟨q, l, n1, n2, p1, hm, hl, g, e, a, b, c1, c2⟩ := near_cg nf ok ne
      have q1 : -7000 ≤ q := by
        rcases Int.lt_or_le q (-7000) with z | z
        · exfalso
          have e := Int.mul_le_mul_of_nonneg_left (by omega : q ≤ -7001) (Int.le_of_lt n1)
          omega
        · exact z
      have q2 : q ≤ 7000 := by
        rcases Int.lt_or_le 7000 q with z | z
        · exfalso
          have e := Int.mul_le_mul_of_nonneg_left (by omega : 7001 ≤ q) (Int.le_of_lt n1)
          omega
        · exact z
      have pp := near_prod p1 nf.per q1 q2
      rw [e, fit_moved]
      intro s hs
      have := hullA_le g hs
      have := le_hullB g hs
      obtain ⟨j, hj, rfl⟩ := List.getElem_of_mem hs
      have := good_at g j hj
      unfold okSp
      omega
theorem seen_ex {F : Fv} (nf : NearF F) (ok : F.Ok) {i : Int} (h : Seen i) (ne : gr F i ≠ []) : Ex F i := ⟨seen_inR h, near_seen nf ok h, ne⟩
/-- A core with a granule has one on either side. -/
theorem near_both {F : Fv} (nf : NearF F) (ok : F.Ok) {i : Int} (h : i < -100 ∨ 100 < i) (ne : gr F i ≠ []) : (∃ k, Seen k ∧ gr F k ≠ [] ∧ 300 ≤ hullA (gr F k)) ∧ ∃ k, Seen k ∧ gr F k ≠ [] ∧ hullB (gr F k) ≤ -300 := by
  rw [near_gr nf h] at ne
  obtain ⟨q, l, n1, n2, p1, hm, hl, g, e, a, b, c1, c2⟩ := near_cg nf ok ne
  have hu : 0 < F.N ∧ F.N = F.cs.length := by
    unfold cg at ne
    by_cases z : 0 < F.N ∧ F.N = F.cs.length
    · exact z
    · rw [if_neg z] at ne; exact absurd rfl ne
  obtain ⟨d, hd, rfl⟩ := List.getElem_of_mem hm
  have key : ∀ t : Int, 0 < F.N → cg F.cs F.P F.N (F.N * t + d) = moved F.cs[d] (F.P * t) := by
    intro t _
    have f1 : (F.N * t + d).fmod F.N = d := fmod_of (q := t) (by omega) (by omega) rfl
    have f2 : (F.N * t + d).fdiv F.N = t := by
      have z := fmod_eq (F.N * t + d) F.N
      rw [f1] at z
      have : F.N * ((F.N * t + d).fdiv F.N) = F.N * t := by omega
      exact Int.eq_of_mul_eq_mul_left (by omega) this
    unfold cg
    rw [if_pos hu, f2]
    unfold cset
    rw [f1, List.getD_eq_getElem?_getD]
    simp [hd]
  have dN : (d : Int) < F.N := by omega
  have b1 := Int.mul_le_mul_of_nonneg_right n2 (by omega : (0 : Int) ≤ 450)
  have b2 : (1 : Int) * 450 ≤ F.N * 450 := Int.mul_le_mul_of_nonneg_right n1 (by omega)
  have nm : ∀ D, moved F.cs[d] D ≠ [] := fun D z => hl (by unfold moved at z; exact List.map_eq_nil_iff.1 z)
  refine ⟨⟨F.N * 450 + d, ⟨by omega, by omega⟩, ?_, ?_⟩, ⟨F.N * (-450) + d, ⟨by omega, by omega⟩, ?_, ?_⟩⟩
  · rw [near_gr nf (.inr (by omega)), key 450 hu.1]; exact nm _
  · have := prod_ge p1 (by omega) (Int.le_refl 450)
    rw [near_gr nf (.inr (by omega)), key 450 hu.1, hullA_moved hl]; omega
  · rw [near_gr nf (.inl (by omega)), key (-450) hu.1]; exact nm _
  · have := prod_le p1 (by omega : (0 : Int) ≤ 450) (Int.le_refl (-450))
    rw [near_gr nf (.inl (by omega)), key (-450) hu.1, hullB_moved hl]; omega
/-- What is told among the indexes that are looked at. -/
def SawFrom (F : Fv) (t i : Int) (ok : Bool) : Prop := (ok = true → Seen i ∧ gr F i ≠ [] ∧ t ≤ hullB (gr F i) ∧ ∀ k, Seen k → gr F k ≠ [] → t ≤ hullB (gr F k) → i ≤ k) ∧ (ok = false → i = 0 ∧ ∀ k, Seen k → gr F k ≠ [] → hullB (gr F k) < t)
def SawTill (F : Fv) (t i : Int) (ok : Bool) : Prop := (ok = true → Seen i ∧ gr F i ≠ [] ∧ hullA (gr F i) ≤ t ∧ ∀ k, Seen k → gr F k ≠ [] → hullA (gr F k) ≤ t → k ≤ i) ∧ (ok = false → i = 0 ∧ ∀ k, Seen k → gr F k ≠ [] → t < hullA (gr F k))
def SawAt (F : Fv) (t i : Int) (ok : Bool) : Prop := (ok = true → Seen i ∧ mem (gr F i) t) ∧ (ok = false → i = 0 ∧ ∀ k, Seen k → ¬ mem (gr F k) t)
def SawOver (F : Fv) (l : List Sp) (zs : List Int) : Prop := zs.Pairwise (· < ·) ∧ ∀ i, i ∈ zs ↔ Seen i ∧ MeetL F l i
theorem saw_from {F : Fv} (nf : NearF F) (ok : F.Ok) {t i j : Int} {a b : Bool} (t1 : -300 ≤ t) (t2 : t ≤ 300) (h : FromIs F t i a) (s : SawFrom F t j b) : i = j ∧ a = b := by
  cases a with
  | false =>
    obtain ⟨i0, hn⟩ := h.2 rfl
    cases b with
    | false => exact ⟨i0.trans (s.2 rfl).1.symm, rfl⟩
    | true =>
      obtain ⟨sj, ne, m, _⟩ := s.1 rfl
      have := hn j (seen_ex nf ok sj ne); omega
  | true =>
    obtain ⟨e, m, least⟩ := h.1 rfl
    have hi : Seen i := by
      constructor
      · rcases Int.lt_or_le i (-6000) with z | z
        · have := far_down nf ok z e.2.2; omega
        · exact z
      · rcases Int.lt_or_le 6000 i with z | z
        · obtain ⟨⟨k, sk, nk, hk⟩, _⟩ := near_both nf ok (.inr (by omega)) e.2.2
          have ek := seen_ex nf ok sk nk
          have := hull_le (gr_good' ok ek) nk
          have := least k ek (by omega)
          have := sk.2
          omega
        · exact z
    cases b with
    | false => have := (s.2 rfl).2 i hi e.2.2; omega
    | true =>
      obtain ⟨sj, ne, mj, lj⟩ := s.1 rfl
      have := least j (seen_ex nf ok sj ne) mj
      have := lj i hi e.2.2 m
      exact ⟨by omega, rfl⟩
theorem saw_till {F : Fv} (nf : NearF F) (ok : F.Ok) {t i j : Int} {a b : Bool} (t1 : -300 ≤ t) (t2 : t ≤ 300) (h : TillIs F t i a) (s : SawTill F t j b) : i = j ∧ a = b := by
  cases a with
  | false =>
    obtain ⟨i0, hn⟩ := h.2 rfl
    cases b with
    | false => exact ⟨i0.trans (s.2 rfl).1.symm, rfl⟩
    | true =>
      obtain ⟨sj, ne, m, _⟩ := s.1 rfl
      have := hn j (seen_ex nf ok sj ne); omega
  | true =>
    obtain ⟨e, m, most⟩ := h.1 rfl
    have hi : Seen i := by
      constructor
      · rcases Int.lt_or_le i (-6000) with z | z
        · obtain ⟨_, ⟨k, sk, nk, hk⟩⟩ := near_both nf ok (.inl (by omega)) e.2.2
          have ek := seen_ex nf ok sk nk
          have := hull_le (gr_good' ok ek) nk
          have := most k ek (by omega)
          have := sk.1
          omega
        · exact z
      · rcases Int.lt_or_le 6000 i with z | z
        · have := far_up nf ok z e.2.2; omega
        · exact z
    cases b with
    | false => have := (s.2 rfl).2 i hi e.2.2; omega
    | true =>
      obtain ⟨sj, ne, mj, lj⟩ := s.1 rfl
      have := most j (seen_ex nf ok sj ne) mj
      have := lj i hi e.2.2 m
      exact ⟨by omega, rfl⟩
theorem mem_ne {l : List Sp} {t : Int} (m : mem l t) : l ≠ [] := by
  obtain ⟨s, hs, _⟩ := m
  intro e; rw [e] at hs; cases hs
/-- An existing granule with a tick near 0 is looked at. -/
theorem seen_of {F : Fv} (nf : NearF F) (ok : F.Ok) {t i : Int} (t1 : -300 ≤ t) (t2 : t ≤ 300) (e : Ex F i) (m : mem (gr F i) t) : Seen i := by
  have q := gr_mem_hull ok e m
  constructor
  · rcases Int.lt_or_le i (-6000) with z | z
    · have := far_down nf ok z e.2.2; omega
    · exact z
  · rcases Int.lt_or_le 6000 i with z | z
    · have := far_up nf ok z e.2.2; omega
    · exact z
theorem saw_at {F : Fv} (nf : NearF F) (rt : F.Rt) (ok : F.Ok) (hl : F.cs.length = F.cn) {t i j : Int} {a b : Bool} (t1 : -300 ≤ t) (t2 : t ≤ 300) (h : AtIs F t i a) (s : SawAt F t j b) : i = j ∧ a = b := by
  cases a with
  | false =>
    obtain ⟨i0, hn⟩ := h.2 rfl
    cases b with
    | false => exact ⟨i0.trans (s.2 rfl).1.symm, rfl⟩
    | true =>
      obtain ⟨sj, m⟩ := s.1 rfl
      exact absurd m (hn j (seen_ex nf ok sj (mem_ne m)))
  | true =>
    obtain ⟨e, m⟩ := h.1 rfl
    cases b with
    | false => exact absurd m ((s.2 rfl).2 i (seen_of nf ok t1 t2 e m))
    | true =>
      obtain ⟨sj, mj⟩ := s.1 rfl
      have ej := seen_ex nf ok sj (mem_ne mj)
      refine ⟨?_, rfl⟩
      have p := gr_mem_hull ok e m
      have q := gr_mem_hull ok ej mj
      rcases Int.lt_or_le i j with z | z
      · have := ex_order rt ok hl e.1 ej.1 z e.2.2 ej.2.2; omega
      · rcases Int.lt_or_le j i with y | y
        · have := ex_order rt ok hl ej.1 e.1 y ej.2.2 e.2.2; omega
        · omega
def seenL : List Int := (List.range 12001).map (fun (n : Nat) => (n : Int) - 6000)
theorem seenL_inc : seenL.Pairwise (· < ·) := by
  unfold seenL
  rw [List.pairwise_map]
  exact List.pairwise_lt_range.imp (fun h => by omega)
theorem seenL_len : seenL.length = 12001 := by unfold seenL; rw [List.length_map, List.length_range]
theorem seenL_mem {i : Int} (h : Seen i) : i ∈ seenL := by
  obtain ⟨a, b⟩ := h
  exact List.mem_map.2 ⟨(i + 6000).toNat, List.mem_range.2 (by omega), by omega⟩
theorem saw_over {F : Fv} (nf : NearF F) (ok : F.Ok) {l : List Sp} (g : Good l) (l1 : -300 ≤ hullA l) (l2 : hullB l ≤ 300) {xs zs : List Int} {k : Int} (h : OverIs F l xs k) (s : SawOver F l zs) : k = 0 ∧ xs = zs := by
  obtain ⟨k0, a, b⟩ := over_few h g seenL_inc (by rw [seenL_len]; omega) (fun i e ⟨t, m, x, y⟩ => seenL_mem (seen_of nf ok (by omega) (by omega) e m))
  refine ⟨k0, sorted_eq a s.1 (fun i => ?_)⟩
  rw [b, s.2]
  constructor
  · rintro ⟨e, t, m, n⟩
    have := mem_hull g n
    exact ⟨seen_of nf ok (by omega) (by omega) e m, t, m, n⟩
  · rintro ⟨e, t, m, n⟩
    exact ⟨seen_ex nf ok e (mem_ne m), t, m, n⟩
theorem down_pos (a b : Int) (w : World) (a1 : 0 ≤ a) (a2 : a ≤ 1099511627776) (b1 : 1 ≤ b) (b2 : b ≤ 1099511627776) :
    Calls Tryz.prog 79 #[.int .i64 a, .int .i64 b] w fun e w' => e = .returned (.tuple #[.int .i64 (a.fdiv b), .int .i64 (a.fmod b)]) ∧ w = w' := by
  have U := Lib.hid (fl_unique (a := a) (b := b) (q := a / b) (r := a % b) (by rw [Int.mul_comm]; exact Int.mul_ediv_add_emod a b) (.inl ⟨by omega, Int.emod_nonneg _ (by omega), Int.emod_lt_of_pos _ (by omega)⟩))
  have n1 : 0 ≤ a % b := Int.emod_nonneg _ (by omega)
  have n2 : a % b < b := Int.emod_lt_of_pos _ (by omega)
  have m1 : 0 ≤ a / b := Int.ediv_nonneg (by omega) (by omega)
  have m2 : a / b ≤ a := Int.ediv_le_self _ (by omega)
  have d2 : decide (a % b < 0) = false := by simp; omega
  go_enter Tryz.func79, Tryz.ntmps79
  go_wp2
  go_returns
  exact ⟨ret_int2 U.out.1 U.out.2, rfl⟩
theorem down_neg (a b : Int) (w : World) (a1 : -1099511627776 ≤ a) (a2 : a < 0) (b1 : 1 ≤ b) (b2 : b ≤ 1099511627776) :
    Calls Tryz.prog 79 #[.int .i64 a, .int .i64 b] w fun e w' => e = .returned (.tuple #[.int .i64 (a.fdiv b), .int .i64 (a.fmod b)]) ∧ w = w' := by
  have hm := Int.mul_tdiv_add_tmod a b
  rw [Int.mul_comm] at hm
  have q1 := Int.natAbs_tdiv_le_natAbs a b
  have r1 : (a.tmod b).natAbs < b.natAbs := by rw [Int.natAbs_tmod]; exact Nat.mod_lt _ (by omega)
  have s2 : a.tmod b ≤ 0 := by have := Int.tmod_nonneg b (show 0 ≤ -a by omega); rw [Int.neg_tmod] at this; omega
  have FU := Lib.hid (fun q r => @fl_unique a b q r)
  have HM := Lib.hid hm
  have q2 : -1099511627776 ≤ a.tdiv b ∧ a.tdiv b ≤ 1099511627776 := by omega
  have q3 := q2.1
  have q4 := q2.2
  have r2 : -1099511627776 ≤ a.tmod b := by omega
  have r3 : b ≠ 0 := by omega
  have r4 : ¬ (a = -9223372036854775808 ∧ b = -1) := by omega
  clear hm q1 q2
  by_cases c : a.tmod b < 0
  · have U := Lib.hid (FU.out (a.tdiv b - 1) (a.tmod b + b) (by have := HM.out; rw [Int.sub_mul]; omega) (by omega))
    have d2 : decide (a.tmod b < 0) = true := by simpa using c
    clear c FU r1
    go_enter Tryz.func79, Tryz.ntmps79
    go_wp2
    go_returns
    exact ⟨ret_int2 U.out.1 U.out.2, rfl⟩
  · have U := Lib.hid (FU.out (a.tdiv b) (a.tmod b) HM.out (by omega))
    have d2 : decide (a.tmod b < 0) = false := by simpa using c
    clear c FU r1
    go_enter Tryz.func79, Tryz.ntmps79
    go_wp2
    go_returns
    exact ⟨ret_int2 U.out.1 U.out.2, rfl⟩
theorem down_any (a b : Int) (w : World) (a1 : -1099511627776 ≤ a) (a2 : a ≤ 1099511627776) (b1 : 1 ≤ b) (b2 : b ≤ 1099511627776) :
    Calls Tryz.prog 79 #[.int .i64 a, .int .i64 b] w fun e w' => e = .returned (.tuple #[.int .i64 (a.fdiv b), .int .i64 (a.fmod b)]) ∧ w = w' := by
  rcases Int.lt_or_le a 0 with z | z
  · exact down_neg a b w a1 z b1 b2
  · exact down_pos a b w z a2 b1 b2
/-- A set as it is kept: the granule is that one moved by so many periods. -/
def KeptAs (F : Fv) (B i : Int) (l : List Sp) (q : Int) : Prop := Good l ∧ gr F i = moved l (F.P * q) ∧ (-B ≤ q ∧ q ≤ B) ∧ (q ≠ 0 → 1 ≤ F.P) ∧ l.length ≤ 1000000
theorem moved0 (l : List Sp) (P : Int) : moved l (P * 0) = l := by rw [Int.mul_zero]; unfold moved; simp
set_option maxHeartbeats 2000000 in
theorem kept_any (F : Fv) (B i : Int) (w : World) (hF : F.At w) (ok : F.Ok) (hB1 : 0 ≤ B) (hB2 : B ≤ 1099511627776) (hi1 : -B ≤ i) (hi2 : i ≤ B) :
    Calls Tryz.prog 57 #[F.v, .int .i64 i] w fun e w' => ∃ (o : Option Addr) (m d : Nat) (l : List Sp) (q : Int), e = .returned (.tuple #[.slice o m d, .int .i64 q]) ∧ Hid (SpAt w' o m d l) ∧ Hid (KeptAs F B i l q) ∧ Hid (Below w.heap.size w w') := by
  have HK := Lib.hid ok
  have hmeas := ok.meas
  have cn1 := ok.cn
  clear ok
  obtain ⟨P, N, co, cn, cc, oo, on, oc, cs, os⟩ := F
  have LC : Hid (cs.length = cn) := Lib.hid hF.core.len
  have LO : Hid (os.length = on) := Lib.hid hF.odd.len
  have hmc : cn ≤ 9223372036854775807 := Nat.le_trans hF.core.le hF.core.top
  have hmo : on ≤ 9223372036854775807 := Nat.le_trans hF.odd.le hF.odd.top
  have cn1 : cn ≤ 1000000 := cn1
  have hmeas : (N = 0 ∧ P = 0 ∧ cn = 0) ∨ (N ≠ 0 ∧ N = cn ∧ 1 ≤ P ∧ P ≤ 1099511627776) := hmeas
  obtain ⟨b, hb⟩ : ∃ b, w.heap.size = b := ⟨_, rfl⟩
  obtain ⟨wb, hwb⟩ : ∃ wb, w.alloc (.cells #[.int .i64 P, .int .i64 N, .slice co cn cc, .slice oo on oc] 25) = wb := ⟨_, rfl⟩
  have HBB : Hid (Fbox ⟨P, N, co, cn, cc, oo, on, oc, cs, os⟩ w wb b) := Lib.hid (by rw [← hwb, ← hb]; exact fbox_new hF)
  clear hF
  show Calls Tryz.prog 57 #[.agg #[.int .i64 P, .int .i64 N, .slice co cn cc, .slice oo on oc], .int .i64 i] w _
  go_enter Tryz.func57, Tryz.ntmps57
  go_upto_region 1 with fail
  clear hwb hb
  have e3 : wb.cell? ⟨b, 3, none⟩ = some (.slice oo on oc) := HBB.out.c3
  go_wp2
  clear e3
  go_loopw [6] (fun ii wr => ∃ k : Nat, k ≤ on ∧ ii = .int .i64 k ∧ Hid (∀ j (h : j < os.length), j < k → os[j].1 ≠ i) ∧ Hid (Fbox ⟨P, N, co, cn, cc, oo, on, oc, cs, os⟩ w wr b)) (fun ii _ => on - (intOf ii).toNat)
  case atStart => exact ⟨0, Nat.zero_le _, rfl, Lib.hid (fun j _ h => absurd h (Nat.not_lt_zero _)), HBB⟩
  case round =>
    obtain ⟨k, hk, rfl, HN, HW⟩ := hrel
    by_cases klt : k < on
    · obtain ⟨g, p, rfl, hc⟩ := (show OdAt wr oo on oc os from HW.out.at_.odd).here (by omega)
      have hkl : k < os.length := by rw [LO.out]; exact klt
      obtain ⟨d1, ⟨o, m, d, d2, d3⟩, d4, d5⟩ := hc k hkl
      have HS := Lib.hid d3
      have HY : Hid (os[k].1 = i → KeptAs ⟨P, N, co, cn, cc, some ⟨g, p, none⟩, on, oc, cs, os⟩ B i os[k].2 0) := Lib.hid (fun e => ⟨(HK.out.odd.good _ (List.getElem_mem hkl)).1, by
        rw [moved0]; unfold gr
        show (match exc os i with | some l => l | none => _) = _
        rw [exc_at HK.out.odd.inc hkl e], ⟨by omega, by omega⟩, fun h => absurd rfl h, HK.out.lenO _ (List.getElem_mem hkl)⟩)
      have HX : Hid (os[k].1 ≠ i → ∀ j (h : j < os.length), j < k + 1 → os[j].1 ≠ i) := Lib.hid (fun e j hj q => by
        by_cases z : j = k
        · subst z; exact e
        · exact HN.out j hj (by omega))
      obtain ⟨L, hL⟩ : ∃ q, os[k].2 = q := ⟨_, rfl⟩
      rw [hL] at HY HS
      obtain ⟨X, hX⟩ : ∃ q, os[k].1 = q := ⟨_, rfl⟩
      rw [hX] at d1 d4 d5 HY HX
      have i0 : (0 : Int) ≤ (k : Int) := by omega
      have i1 : (k : Int) < (on : Int) := by omega
      have e3 : wr.cell? ⟨b, 3, none⟩ = some (.slice (some ⟨g, p, none⟩) on oc) := HW.out.c3
      clear hc d3 hX hL HN
      clear hkl
      by_cases e : X = i
      · have t1 : (X == i) = true := by simp; exact e
        have HE := Lib.hid (HY.out e)
        clear e HY HX
        go_wp2
        go_returns
        exact ⟨o, m, d, L, 0, rfl, HS, HE, Lib.hid HW.out.bw⟩
      · have t1 : (X == i) = false := by simp; exact e
        have HE := Lib.hid (HX.out e)
        clear e HY HX d2
        go_wp2
        go_roundw
        case rel => exact ⟨k + 1, by omega, by go_num, HE, HW⟩
        case measure => simp [intOf]; omega
    · obtain rfl : on = k := by omega
      have HNO : Hid (exc os i = none) := Lib.hid (exc_none.2 (fun o ho e => by
        obtain ⟨j, hj, rfl⟩ := List.getElem_of_mem ho
        exact HN.out j hj (by rw [← LO.out]; exact hj) e))
      have e0 : wr.cell? ⟨b, 0, none⟩ = some (.int .i64 P) := HW.out.c0
      have e1 : wr.cell? ⟨b, 1, none⟩ = some (.int .i64 N) := HW.out.c1
      have e2 : wr.cell? ⟨b, 2, none⟩ = some (.slice co cn cc) := HW.out.c2
      have e3 : wr.cell? ⟨b, 3, none⟩ = some (.slice oo on oc) := HW.out.c3
      clear HN
      by_cases n0 : N = 0
      · have t0 : (N == 0) = true := by simp; exact n0
        have HE : Hid (KeptAs ⟨P, N, co, cn, cc, oo, on, oc, cs, os⟩ B i [] 0) := Lib.hid ⟨trivial, by
          rw [moved0]; unfold gr
          show (match exc os i with | some l => l | none => cg cs P N i) = _
          rw [HNO.out]; show cg cs P N i = []
          unfold cg; rw [if_neg (fun h => by omega)], ⟨by omega, by omega⟩, fun h => absurd rfl h, Nat.zero_le _⟩
        clear hmeas
        go_wp2
        go_returns
        exact ⟨none, 0, 0, [], 0, rfl, Lib.hid (SpAt.nil _), HE, Lib.hid HW.out.bw⟩
      · have t0 : (N == 0) = false := by simp; exact n0
        obtain ⟨m1, m2, m3⟩ : N = (cn : Int) ∧ 1 ≤ P ∧ P ≤ 1099511627776 := by
          rcases hmeas with ⟨h, _⟩ | ⟨_, h1, h2, h3⟩
          · exact absurd h n0
          · exact ⟨h1, h2, h3⟩
        subst m1
        have np : (0 : Int) < (cn : Int) := by omega
        clear hmeas n0
        obtain ⟨f1, f2⟩ := fmod_nat i np
        have ff : i = (cn : Int) * i.fdiv (cn : Int) + i.fmod (cn : Int) := (Int.mul_fdiv_add_fmod i (cn : Int)).symm
        obtain ⟨n, hn⟩ : ∃ n : Nat, i.fmod (cn : Int) = n := ⟨_, (Int.toNat_of_nonneg f1).symm⟩
        obtain ⟨q, hq⟩ : ∃ q, i.fdiv (cn : Int) = q := ⟨_, rfl⟩
        have nlt : n < cn := by omega
        have ql : -B ≤ q ∧ q ≤ B := by
          rw [hq] at ff
          constructor
          · rcases Int.lt_or_le q (-B) with z | z
            · exfalso
              have e := Int.mul_le_mul_of_nonneg_left (by omega : q ≤ -(B + 1)) (Int.le_of_lt np)
              have e2 := Int.mul_le_mul_of_nonneg_right (by omega : (1 : Int) ≤ (cn : Int)) (by omega : (0 : Int) ≤ B)
              rw [Int.mul_neg, Int.mul_add] at e
              omega
            · exact z
          · rcases Int.lt_or_le B q with z | z
            · exfalso
              have e := Int.mul_le_mul_of_nonneg_left (by omega : B + 1 ≤ q) (Int.le_of_lt np)
              have e2 := Int.mul_le_mul_of_nonneg_right (by omega : (1 : Int) ≤ (cn : Int)) (by omega : (0 : Int) ≤ B)
              rw [Int.mul_add] at e
              omega
            · exact z
        obtain ⟨g, p, rfl, hc⟩ := (show CoAt wr co cn cc cs from HW.out.at_.core).here (by omega)
        have hnl : n < cs.length := by rw [LC.out]; exact nlt
        obtain ⟨o, m, d, d2, d3⟩ := hc n hnl
        have HS := Lib.hid d3
        have HE : Hid (KeptAs ⟨P, (cn : Int), some ⟨g, p, none⟩, cn, cc, oo, on, oc, cs, os⟩ B i cs[n] q) := Lib.hid ⟨HK.out.core _ (List.getElem_mem hnl), by
          unfold gr
          show (match exc os i with | some l => l | none => cg cs P (cn : Int) i) = moved cs[n] (P * q)
          rw [HNO.out]; show cg cs P (cn : Int) i = moved cs[n] (P * q)
          unfold cg cset
          rw [if_pos ⟨np, by rw [LC.out]⟩, hn, hq, List.getD_eq_getElem?_getD]
          simp [hnl], ql, fun _ => m2, HK.out.lenC _ (List.getElem_mem hnl)⟩
        have HD := Lib.hid (fun W => down_any i (cn : Int) W (by omega) (by omega) (by omega) (by omega))
        rw [hn, hq] at HD
        obtain ⟨L, hL⟩ : ∃ q, cs[n] = q := ⟨_, rfl⟩
        rw [hL] at HS HE
        obtain ⟨q1, q2⟩ := ql
        have i0 : (0 : Int) ≤ (n : Int) := by omega
        have i1 : (n : Int) < (cn : Int) := by omega
        clear hc d3 hL ff f1 f2 hn hq
        clear hnl
        have HB := Lib.hid HW.out.bw
        go_wp2_with fail
        (with_reducible refine (HD.out _).mono ?_)
        rintro e w3 ⟨rfl, rfl⟩
        go_wp2
        go_returns
        exact ⟨o, m, d, L, q, rfl, HS, HE, HB⟩
theorem spCells_app : ∀ (l k : List Sp), spCells (l ++ k) = spCells l ++ spCells k
  | [], k => rfl
  | s :: r, k => by simp [spCells, spCells_app r k]
theorem appSp {w0 w : World} {ops : Array Oper} {rest : List Oper} {o : Oper} {a : Act} {Q : Exit → Act → World → Prop} (hgd : o.guard = none) (s x : Operand)
    (ho : o.op = .call { callee := .builtin .append, args := #[s, x], argTypes := #[27, 27] }) (B : Nat) (v : Value) (n : Nat) (l : List Sp) (hs : a.eval s = v) (hown : w.ownsRow B 38 2 v n (spCells l))
    (ao : Option Addr) (m c : Nat) (k : List Sp) (hx : a.eval x = .slice ao m c) (hk : SpAt w ao m c k) (hn : n ≤ 1000000) (hm : m ≤ 1000000) (hB : Below B w0 w) (h0 : B ≤ w0.heap.size)
    (h : ∀ v' w', w'.ownsRow B 38 2 v' (n + m) (spCells (l ++ k)) → Below B w0 w' → wpList Tryz.prog ops Q rest (a.put o.dst v') w') : wpList Tryz.prog ops Q (o :: rest) a w := by
  obtain ⟨i0, hi, hz0, hz1, hz2⟩ := info_parts info38
  have hBs : B ≤ w.heap.size := Nat.le_trans h0 hB.size
  cases ao with
  | none =>
    obtain ⟨rfl, rfl⟩ := hk.bare rfl
    obtain rfl : k = [] := List.eq_nil_of_length_eq_zero hk.len
    refine wpList_append_own_none hgd s x 27 ho B 38 i0 2 Tryz.underlying27 hi v n (spCells l) hs hown hx ?_
    exact h v w (by simpa using hown) hB
  | some ad =>
    refine wpList_append_own _ hgd s x 27 ho B 38 i0 (.agg #[.int .i64 0, .int .i64 0]) 2 16 Tryz.underlying27 hi hz0 hz1 hz2 rfl (by decide) v n (spCells l) hs hown ad m c (spCells k) hx (by rw [spCells_length, hk.len]) (sp_all' hk) (spCells_one k) (by unfold maxLen; omega) (by omega) hBs ?_
    intro v' w' hown' hgro _
    exact h v' w' (by rw [spCells_app]; exact hown') (hB.grown hgro hBs (fun q hq => (hown.lt q hq).1))
theorem own0 {w w2 : World} (h : w.heap.size ≤ w2.heap.size) : (w2.alloc (.cells #[] 38)).ownsRow w.heap.size 38 2 (.slice (some ⟨w2.heap.size, 0, none⟩) 0 0) 0 (spCells []) :=
  ⟨rfl, .inr ⟨w2.heap.size, 0, #[], rfl, h, by show (w2.heap.push _)[w2.heap.size]? = _; simp, Nat.le_refl _, by unfold maxLen; omega, rfl, rfl⟩⟩
theorem quo_pos {P : Int} (h1 : 1 ≤ P) (h2 : P ≤ 200) : 10995116277 ≤ (2199023255552 : Int) / P ∧ (2199023255552 : Int) / P ≤ 2199023255552 :=
  ⟨(Int.le_ediv_iff_mul_le (by omega)).2 (by omega), Int.ediv_le_self _ (by omega)⟩
theorem quo_neg {P : Int} (h1 : 1 ≤ P) (h2 : P ≤ 200) : (-2199023255552 : Int).tdiv P = -((2199023255552 : Int) / P) := by
  rw [Int.neg_tdiv, Int.tdiv_eq_ediv_of_nonneg (by omega)]
theorem prodB {P q : Int} (h1 : 1 ≤ P) (h2 : P ≤ 200) (a : -6000 ≤ q) (b : q ≤ 6000) : -1200000 ≤ P * q ∧ P * q ≤ 1200000 := by
  have h0 : 0 ≤ P := by omega
  have e1 := Int.mul_le_mul_of_nonneg_left b h0
  have e2 := Int.mul_le_mul_of_nonneg_left a h0
  omega
set_option maxHeartbeats 2000000 in
theorem refGet_near (F : Fv) (i : Int) (w : World) (hF : F.At w) (ok : F.Ok) (hP : F.P ≤ 200) (hi1 : -6000 ≤ i) (hi2 : i ≤ 6000) (hf : Fit (gr F i))
    (MV : ∀ (ao : Option Addr) (n c : Nat) (l : List Sp), Good l → n ≤ 1000000 → ∀ d : Int, -9223372036854775808 ≤ d → d ≤ 9223372036854775807 → ∀ w : World, SpAt w ao n c l → Calls Tryz.prog 58 #[.slice ao n c, .int .i64 d] w fun e w' => ∃ (v : Value) (k : Int), e = .returned (.tuple #[v, .int .i64 k]) ∧ Below w.heap.size w w' ∧
      (((∀ s ∈ l, okSp d s) ∧ k = 0 ∧ w'.ownsRow w.heap.size 38 2 v n (spCells (moved l d))) ∨ ((∃ s ∈ l, ¬ okSp d s) ∧ k = 20 ∧ v = .slice none 0 0))) :
    Calls Tryz.prog 27 #[F.v, .int .i64 i] w fun e w' => ∃ (v : Value), e = .returned (.tuple #[v, .int .i64 0]) ∧ Hid (w'.ownsRow w.heap.size 38 2 v (gr F i).length (spCells (gr F i))) ∧ Hid (Below w.heap.size w w') := by
  have HK := Lib.hid (fun W h => kept_any F 6000 i W h ok (by omega) (by omega) hi1 hi2)
  have MV := Lib.hid MV
  have HFT := Lib.hid hf
  clear ok hf
  obtain ⟨G, hG⟩ : ∃ g, gr F i = g := ⟨_, rfl⟩
  have HG := Lib.hid hG
  rw [hG] at HFT ⊢
  clear hG
  obtain ⟨P, N, co, cn, cc, oo, on, oc, cs, os⟩ := F
  have LC : Hid (cs.length = cn) := Lib.hid hF.core.len
  have LO : Hid (os.length = on) := Lib.hid hF.odd.len
  have hmc : cn ≤ 9223372036854775807 := Nat.le_trans hF.core.le hF.core.top
  have hmo : on ≤ 9223372036854775807 := Nat.le_trans hF.odd.le hF.odd.top
  have hP : P ≤ 200 := hP
  have p1 : -9223372036854775808 ≤ P := hF.p1
  obtain ⟨b, hb⟩ : ∃ b, w.heap.size = b := ⟨_, rfl⟩
  obtain ⟨wb, hwb⟩ : ∃ wb, w.alloc (.cells #[.int .i64 P, .int .i64 N, .slice co cn cc, .slice oo on oc] 25) = wb := ⟨_, rfl⟩
  have HBB : Hid (Fbox ⟨P, N, co, cn, cc, oo, on, oc, cs, os⟩ w wb b) := Lib.hid (by rw [← hwb, ← hb]; exact fbox_new hF)
  clear hF
  show Calls Tryz.prog 27 #[.agg #[.int .i64 P, .int .i64 N, .slice co cn cc, .slice oo on oc], .int .i64 i] w _
  go_enter Tryz.func27, Tryz.ntmps27
  go_upto_region 1 with fail
  clear hwb hb
  have e0 : wb.cell? ⟨b, 0, none⟩ = some (.int .i64 P) := HBB.out.c0
  have e1 : wb.cell? ⟨b, 1, none⟩ = some (.int .i64 N) := HBB.out.c1
  have e2 : wb.cell? ⟨b, 2, none⟩ = some (.slice co cn cc) := HBB.out.c2
  have e3 : wb.cell? ⟨b, 3, none⟩ = some (.slice oo on oc) := HBB.out.c3
  have HK : Hid (∀ W, Fv.At ⟨P, N, co, cn, cc, oo, on, oc, cs, os⟩ W → Calls Tryz.prog 57 #[.agg #[.int .i64 P, .int .i64 N, .slice co cn cc, .slice oo on oc], .int .i64 i] W fun e w' => ∃ (o : Option Addr) (m d : Nat) (l : List Sp) (q : Int), e = .returned (.tuple #[.slice o m d, .int .i64 q]) ∧ Hid (SpAt w' o m d l) ∧ Hid (KeptAs ⟨P, N, co, cn, cc, oo, on, oc, cs, os⟩ 6000 i l q) ∧ Hid (Below W.heap.size W w')) := HK
  have d1 : ¬ i < -1099511627776 := by omega
  have d2 : ¬ 1099511627776 < i := by omega
  go_wp2_with fail
  (with_reducible refine (HK.out _ HBB.out.at_).mono ?_)
  rintro e w2 ⟨o, m, d, l, q, rfl, HS, HKA, q2⟩
  have HBB := Lib.hid (HBB.out.keep q2.out)
  clear q2 e0 e1 e2 e3
  have e0 : w2.cell? ⟨b, 0, none⟩ = some (.int .i64 P) := HBB.out.c0
  obtain ⟨k1, k2, ⟨k3, k4⟩, k5, k6⟩ := HKA.out
  have HGL := Lib.hid k1
  have HGM : Hid (G = moved l (P * q)) := Lib.hid (by rw [← HG.out]; exact k2)
  have k5 : q ≠ 0 → 1 ≤ P := k5
  have m1 : m ≤ 1000000 := by rw [← HS.out.len]; exact k6
  have LM := Lib.hid HS.out.len
  clear k1 k2 k6 HKA HG HK
  have HBS := Lib.hid HBB.out.bw.size
  by_cases hz : m = 0 ∨ q = 0
  · have HE : Hid (G = l) := Lib.hid (by
      rw [HGM.out]
      rcases hz with z | z
      · have : l = [] := List.eq_nil_of_length_eq_zero (by rw [LM.out]; exact z)
        rw [this]; rfl
      · rw [z, moved0])
    obtain ⟨t1, ht1⟩ : ∃ t : Bool, ((m : Int) == 0) = t := ⟨_, rfl⟩
    obtain ⟨t2, ht2⟩ : ∃ t : Bool, (q == 0) = t := ⟨_, rfl⟩
    have HT : Hid (t1 = true ∨ t2 = true) := Lib.hid (by
      rcases hz with z | z
      · left; rw [← ht1]; simp; exact z
      · right; rw [← ht2]; simp; exact z)
    clear hz
    cases t1 <;> cases t2
    · rcases HT.out with h | h <;> cases h
    all_goals
      go_wp2_with (at_builtin; (refine appSp (w0 := w) rfl _ _ rfl w.heap.size (.slice (some ⟨w2.heap.size, 0, none⟩) 0 0) 0 [] (by rfl) (own0 HBS.out) o m d l (by rfl) (HS.out.keep ((Below.refl _ w2).alloc (Nat.le_refl _) _)) (by omega) m1 (HBB.out.bw.alloc HBS.out _) (Nat.le_refl _) ?_); intro v' w' ho hb; have HO := Lib.hid ho; have HB := Lib.hid hb; clear ho hb)
      go_returns
      refine ⟨v', rfl, Lib.hid ?_, HB⟩
      have z := HO.out
      rw [List.nil_append, Nat.zero_add] at z
      rw [HE.out, LM.out]
      exact z
  · have t1 : ((m : Int) == 0) = false := by simp; omega
    have t2 : (q == 0) = false := by simp; omega
    have p0 : 1 ≤ P := k5 (by omega)
    clear k5
    have HQP := Lib.hid (quo_pos p0 hP)
    have HQN := Lib.hid (show 10995116277 ≤ Int.tdiv 2199023255552 P ∧ Int.tdiv 2199023255552 P ≤ 2199023255552 by rw [Int.tdiv_eq_ediv_of_nonneg (by omega)]; exact HQP.out)
    obtain ⟨qa, qb⟩ := HQP.out
    obtain ⟨qc, qd⟩ := HQN.out
    have q0 : P ≠ 0 := by omega
    have HPR := Lib.hid (prodB p0 hP k3 k4)
    obtain ⟨pa, pb⟩ := HPR.out
    have HMV := Lib.hid (fun W h => MV.out o m d l HGL.out m1 (P * q) (by omega) (by omega) W h)
    have HCM : Hid (q * P = P * q) := Lib.hid (Int.mul_comm _ _)
    have pa2 : -1200000 ≤ q * P := by rw [HCM.out]; exact pa
    have pb2 : q * P ≤ 1200000 := by rw [HCM.out]; exact pb
    go_wp2_with fail
    (with_reducible refine ((by rw [HCM.out]; exact HMV.out _ HS.out : Calls Tryz.prog 58 #[.slice o m d, .int .i64 (q * P)] w2 _)).mono ?_)
    rintro e w3 ⟨v, k, rfl, q3, HV⟩
    have HB3 := Lib.hid (HBB.out.bw.trans (q3.mono HBB.out.bw.size))
    have HV := Lib.hid HV
    clear q3
    go_wp2
    go_returns
    rcases HV.out with ⟨z1, z2, z3⟩ | ⟨⟨s, z0, z1⟩, z2, z3⟩
    · subst z2
      refine ⟨v, rfl, Lib.hid ?_, HB3⟩
      rw [HGM.out, show (moved l (P * q)).length = m by rw [← LM.out]; unfold moved; simp]
      exact own_base z3 HBS.out
    · exfalso
      have := HFT.out
      rw [HGM.out, fit_moved] at this
      exact z1 (this s z0)
/-- What Get tells of the indexes looked at. -/
def GetsNear (F : Fv) : Prop := ∀ i, Seen i → ∀ W, F.At W → Calls Tryz.prog 27 #[F.v, .int .i64 i] W fun e w' => ∃ (v : Value), e = .returned (.tuple #[v, .int .i64 0]) ∧ Hid (w'.ownsRow W.heap.size 38 2 v (gr F i).length (spCells (gr F i))) ∧ Hid (Below W.heap.size W w')
/-- An index and whether there is one. -/
def SawOut (S : Int → Bool → Prop) (w : World) (e : Ending) (w' : World) : Prop := ∃ (j : Int) (b : Bool), e = .returned (.tuple #[.int .i64 j, .bool b]) ∧ Hid (S j b) ∧ Hid (Below w.heap.size w w')
theorem ret_ib {k : IntKind} {a b : Int} {c d : Bool} (h : a = b) (h' : c = d) : Ending.returned (.tuple #[.int k a, .bool c]) = .returned (.tuple #[.int k b, .bool d]) := by rw [h, h']
theorem hullA_at {l : List Sp} (h : 0 < l.length) : hullA l = l[0].1 := by unfold hullA; rw [List.getD_eq_getElem?_getD, List.getElem?_eq_getElem h]; rfl
theorem hullB_at {l : List Sp} {k : Nat} (h : k < l.length) (e : l.length = k + 1) : hullB l = l[k].2 := by
  unfold hullB
  rw [show l.length - 1 = k by omega, List.getD_eq_getElem?_getD, List.getElem?_eq_getElem h]; rfl
set_option maxHeartbeats 4000000 in
theorem refFrom_near (F : Fv) (t : Int) (w : World) (hF : F.At w) (gn : GetsNear F) :
    Calls Tryz.prog 11 #[F.v, .int .i64 t, .int .i64 (-6000), .int .i64 6000] w fun e w' => SawOut (SawFrom F t) w e w' := by
  have HGN := Lib.hid gn
  clear gn
  obtain ⟨P, N, co, cn, cc, oo, on, oc, cs, os⟩ := F
  have LC : Hid (cs.length = cn) := Lib.hid hF.core.len
  have LO : Hid (os.length = on) := Lib.hid hF.odd.len
  have hmc : cn ≤ 9223372036854775807 := Nat.le_trans hF.core.le hF.core.top
  have hmo : on ≤ 9223372036854775807 := Nat.le_trans hF.odd.le hF.odd.top
  obtain ⟨b, hb⟩ : ∃ b, w.heap.size = b := ⟨_, rfl⟩
  obtain ⟨wb, hwb⟩ : ∃ wb, w.alloc (.cells #[.int .i64 P, .int .i64 N, .slice co cn cc, .slice oo on oc] 25) = wb := ⟨_, rfl⟩
  have HBB : Hid (Fbox ⟨P, N, co, cn, cc, oo, on, oc, cs, os⟩ w wb b) := Lib.hid (by rw [← hwb, ← hb]; exact fbox_new hF)
  clear hF
  show Calls Tryz.prog 11 #[.agg #[.int .i64 P, .int .i64 N, .slice co cn cc, .slice oo on oc], .int .i64 t, .int .i64 (-6000), .int .i64 6000] w _
  go_enter Tryz.func11, Tryz.ntmps11
  go_upto_region 1 with fail
  clear hwb hb
  go_wp2
  go_loopw [10] (fun ii wr => ∃ x : Int, (-6000 ≤ x ∧ x ≤ 6001) ∧ ii = .int .i64 x ∧ Hid (∀ k, -6000 ≤ k → k < x → gr ⟨P, N, co, cn, cc, oo, on, oc, cs, os⟩ k ≠ [] → hullB (gr ⟨P, N, co, cn, cc, oo, on, oc, cs, os⟩ k) < t) ∧ Hid (Fbox ⟨P, N, co, cn, cc, oo, on, oc, cs, os⟩ w wr b)) (fun ii _ => (6001 - intOf ii).toNat)
  case atStart => exact ⟨-6000, ⟨by omega, by omega⟩, rfl, Lib.hid (fun k h1 h2 => by omega), HBB⟩
  case round =>
    obtain ⟨x, ⟨x1, x2⟩, rfl, HN, HW⟩ := hrel
    by_cases xlt : x ≤ 6000
    · have HX := Lib.hid (HGN.out x ⟨by omega, by omega⟩)
      have HNX : Hid (gr ⟨P, N, co, cn, cc, oo, on, oc, cs, os⟩ x ≠ [] → hullB (gr ⟨P, N, co, cn, cc, oo, on, oc, cs, os⟩ x) ≥ t → SawFrom ⟨P, N, co, cn, cc, oo, on, oc, cs, os⟩ t x true) := Lib.hid (fun ne h => ⟨fun _ => ⟨⟨by omega, by omega⟩, ne, h, fun k sk nk hk => by
        rcases Int.lt_or_le k x with z | z
        · have := HN.out k sk.1 z nk; omega
        · exact z⟩, fun h => by cases h⟩)
      have HNN : Hid ((gr ⟨P, N, co, cn, cc, oo, on, oc, cs, os⟩ x ≠ [] → hullB (gr ⟨P, N, co, cn, cc, oo, on, oc, cs, os⟩ x) < t) → (∀ k, -6000 ≤ k → k < x + 1 → gr ⟨P, N, co, cn, cc, oo, on, oc, cs, os⟩ k ≠ [] → hullB (gr ⟨P, N, co, cn, cc, oo, on, oc, cs, os⟩ k) < t)) := Lib.hid (fun h k h1 h2 ne => by
        by_cases z : k = x
        · subst z; exact h ne
        · exact HN.out k (by omega) (by omega) ne)
      have e0 : wr.cell? ⟨b, 0, none⟩ = some (.int .i64 P) := HW.out.c0
      have e1 : wr.cell? ⟨b, 1, none⟩ = some (.int .i64 N) := HW.out.c1
      have e2 : wr.cell? ⟨b, 2, none⟩ = some (.slice co cn cc) := HW.out.c2
      have e3 : wr.cell? ⟨b, 3, none⟩ = some (.slice oo on oc) := HW.out.c3
      obtain ⟨G, hG⟩ : ∃ g, gr ⟨P, N, co, cn, cc, oo, on, oc, cs, os⟩ x = g := ⟨_, rfl⟩
      rw [hG] at HX HNX HNN
      have HX : Hid (∀ W, Fv.At ⟨P, N, co, cn, cc, oo, on, oc, cs, os⟩ W → Calls Tryz.prog 27 #[.agg #[.int .i64 P, .int .i64 N, .slice co cn cc, .slice oo on oc], .int .i64 x] W fun e w' => ∃ (v : Value), e = .returned (.tuple #[v, .int .i64 0]) ∧ Hid (w'.ownsRow W.heap.size 38 2 v G.length (spCells G)) ∧ Hid (Below W.heap.size W w')) := HX
      clear hG HN
      go_wp2_with fail
      (with_reducible refine (HX.out _ HW.out.at_).mono ?_)
      rintro e w2 ⟨v, rfl, HO, q⟩
      have HW := Lib.hid (HW.out.keep q.out)
      clear q e0 e1 e2 e3 HX
      obtain ⟨ao, c, rfl, hs⟩ := own_sp rfl HO.out
      have HS := Lib.hid hs
      obtain ⟨n, hn⟩ : ∃ n, G.length = n := ⟨_, rfl⟩
      rw [hn] at hs
      have hmx : n ≤ 9223372036854775807 := Nat.le_trans hs.le hs.top
      clear HO hs
      rw [hn] at HS ⊢
      by_cases n0 : n = 0
      · subst n0
        have HE : Hid (G = []) := Lib.hid (List.eq_nil_of_length_eq_zero hn)
        have HP := Lib.hid (HNN.out (fun h => absurd HE.out h))
        clear HNN HNX hn
        go_wp2
        go_roundw
        case rel => exact ⟨x + 1, ⟨by omega, by omega⟩, by go_num, HP, HW⟩
        case measure => simp [intOf]; omega
      · have HNE : Hid (G ≠ []) := Lib.hid (fun h => n0 (by rw [← hn, h]; rfl))
        obtain ⟨g, p, rfl, hc⟩ := HS.out.here (by omega)
        have hm : n - 1 < G.length := by omega
        have c1 := (hc _ hm).2
        have HH : Hid (hullB G = G[n - 1].2) := Lib.hid (hullB_at hm (by omega))
        obtain ⟨X, hX⟩ : ∃ z, G[n - 1].2 = z := ⟨_, rfl⟩
        rw [hX] at c1 HH
        obtain ⟨k, hkk⟩ : ∃ k, n - 1 = k := ⟨_, rfl⟩
        rw [hkk] at c1
        have e4 : IntKind.i64.wrap ((n : Int) - 1) = (k : Int) := by rw [IntWalk.i64_in _ (by omega)]; omega
        have k0 : (0 : Int) ≤ (k : Int) := by omega
        have k1 : (k : Int) < (n : Int) := by omega
        have e5 : (n : Int) - 1 = (k : Int) := by omega
        have k3 : (0 : Int) < (n : Int) := by omega
        clear hc hX n0 hkk
        clear hm hn
        by_cases tx : t ≤ X
        · have HSAW := Lib.hid (HNX.out HNE.out (by rw [HH.out]; exact tx))
          clear HNX HNN
          go_wp2
          go_returns
          exact ⟨x, true, rfl, HSAW, Lib.hid HW.out.bw⟩
        · have HP := Lib.hid (HNN.out (fun _ => by rw [HH.out]; omega))
          clear HNX HNN
          go_wp2
          go_roundw
          case rel => exact ⟨x + 1, ⟨by omega, by omega⟩, by go_num, HP, HW⟩
          case measure => simp [intOf]; omega
    · have hx : x = 6001 := by omega
      have HSAW : Hid (SawFrom ⟨P, N, co, cn, cc, oo, on, oc, cs, os⟩ t 0 false) := Lib.hid ⟨(fun h => by cases h), fun _ => ⟨rfl, fun k sk ne => HN.out k sk.1 (by have := sk.2; omega) ne⟩⟩
      clear hx HN
      go_wp2
      go_returns
      exact ⟨0, false, rfl, HSAW, Lib.hid HW.out.bw⟩
set_option maxHeartbeats 4000000 in
theorem refTill_near (F : Fv) (t : Int) (w : World) (hF : F.At w) (gn : GetsNear F) :
    Calls Tryz.prog 13 #[F.v, .int .i64 t, .int .i64 (-6000), .int .i64 6000] w fun e w' => SawOut (SawTill F t) w e w' := by
  have HGN := Lib.hid gn
  clear gn
  obtain ⟨P, N, co, cn, cc, oo, on, oc, cs, os⟩ := F
  have LC : Hid (cs.length = cn) := Lib.hid hF.core.len
  have LO : Hid (os.length = on) := Lib.hid hF.odd.len
  have hmc : cn ≤ 9223372036854775807 := Nat.le_trans hF.core.le hF.core.top
  have hmo : on ≤ 9223372036854775807 := Nat.le_trans hF.odd.le hF.odd.top
  obtain ⟨b, hb⟩ : ∃ b, w.heap.size = b := ⟨_, rfl⟩
  obtain ⟨wb, hwb⟩ : ∃ wb, w.alloc (.cells #[.int .i64 P, .int .i64 N, .slice co cn cc, .slice oo on oc] 25) = wb := ⟨_, rfl⟩
  have HBB : Hid (Fbox ⟨P, N, co, cn, cc, oo, on, oc, cs, os⟩ w wb b) := Lib.hid (by rw [← hwb, ← hb]; exact fbox_new hF)
  clear hF
  show Calls Tryz.prog 13 #[.agg #[.int .i64 P, .int .i64 N, .slice co cn cc, .slice oo on oc], .int .i64 t, .int .i64 (-6000), .int .i64 6000] w _
  go_enter Tryz.func13, Tryz.ntmps13
  go_upto_region 1 with fail
  clear hwb hb
  go_wp2
  go_loopw [10] (fun ii wr => ∃ x : Int, (-6001 ≤ x ∧ x ≤ 6000) ∧ ii = .int .i64 x ∧ Hid (∀ k, x < k → k ≤ 6000 → gr ⟨P, N, co, cn, cc, oo, on, oc, cs, os⟩ k ≠ [] → t < hullA (gr ⟨P, N, co, cn, cc, oo, on, oc, cs, os⟩ k)) ∧ Hid (Fbox ⟨P, N, co, cn, cc, oo, on, oc, cs, os⟩ w wr b)) (fun ii _ => (intOf ii + 6001).toNat)
  case atStart => exact ⟨6000, ⟨by omega, by omega⟩, rfl, Lib.hid (fun k h1 h2 => by omega), HBB⟩
  case round =>
    obtain ⟨x, ⟨x1, x2⟩, rfl, HN, HW⟩ := hrel
    by_cases xlt : -6000 ≤ x
    · have HX := Lib.hid (HGN.out x ⟨by omega, by omega⟩)
      have HNX : Hid (gr ⟨P, N, co, cn, cc, oo, on, oc, cs, os⟩ x ≠ [] → hullA (gr ⟨P, N, co, cn, cc, oo, on, oc, cs, os⟩ x) ≤ t → SawTill ⟨P, N, co, cn, cc, oo, on, oc, cs, os⟩ t x true) := Lib.hid (fun ne h => ⟨fun _ => ⟨⟨by omega, by omega⟩, ne, h, fun k sk nk hk => by
        rcases Int.lt_or_le x k with z | z
        · have := HN.out k z sk.2 nk; omega
        · exact z⟩, fun h => by cases h⟩)
      have HNN : Hid ((gr ⟨P, N, co, cn, cc, oo, on, oc, cs, os⟩ x ≠ [] → hullA (gr ⟨P, N, co, cn, cc, oo, on, oc, cs, os⟩ x) > t) → (∀ k, x - 1 < k → k ≤ 6000 → gr ⟨P, N, co, cn, cc, oo, on, oc, cs, os⟩ k ≠ [] → t < hullA (gr ⟨P, N, co, cn, cc, oo, on, oc, cs, os⟩ k))) := Lib.hid (fun h k h1 h2 ne => by
        by_cases z : k = x
        · subst z; exact h ne
        · exact HN.out k (by omega) (by omega) ne)
      have e0 : wr.cell? ⟨b, 0, none⟩ = some (.int .i64 P) := HW.out.c0
      have e1 : wr.cell? ⟨b, 1, none⟩ = some (.int .i64 N) := HW.out.c1
      have e2 : wr.cell? ⟨b, 2, none⟩ = some (.slice co cn cc) := HW.out.c2
      have e3 : wr.cell? ⟨b, 3, none⟩ = some (.slice oo on oc) := HW.out.c3
      obtain ⟨G, hG⟩ : ∃ g, gr ⟨P, N, co, cn, cc, oo, on, oc, cs, os⟩ x = g := ⟨_, rfl⟩
      rw [hG] at HX HNX HNN
      have HX : Hid (∀ W, Fv.At ⟨P, N, co, cn, cc, oo, on, oc, cs, os⟩ W → Calls Tryz.prog 27 #[.agg #[.int .i64 P, .int .i64 N, .slice co cn cc, .slice oo on oc], .int .i64 x] W fun e w' => ∃ (v : Value), e = .returned (.tuple #[v, .int .i64 0]) ∧ Hid (w'.ownsRow W.heap.size 38 2 v G.length (spCells G)) ∧ Hid (Below W.heap.size W w')) := HX
      clear hG HN
      go_wp2_with fail
      (with_reducible refine (HX.out _ HW.out.at_).mono ?_)
      rintro e w2 ⟨v, rfl, HO, q⟩
      have HW := Lib.hid (HW.out.keep q.out)
      clear q e0 e1 e2 e3 HX
      obtain ⟨ao, c, rfl, hs⟩ := own_sp rfl HO.out
      have HS := Lib.hid hs
      obtain ⟨n, hn⟩ : ∃ n, G.length = n := ⟨_, rfl⟩
      rw [hn] at hs
      have hmx : n ≤ 9223372036854775807 := Nat.le_trans hs.le hs.top
      clear HO hs
      rw [hn] at HS ⊢
      by_cases n0 : n = 0
      · subst n0
        have HE : Hid (G = []) := Lib.hid (List.eq_nil_of_length_eq_zero hn)
        have HP := Lib.hid (HNN.out (fun h => absurd HE.out h))
        clear HNN HNX hn
        go_wp2
        go_roundw
        case rel => exact ⟨x - 1, ⟨by omega, by omega⟩, by go_num, HP, HW⟩
        case measure => simp [intOf]; omega
      · have HNE : Hid (G ≠ []) := Lib.hid (fun h => n0 (by rw [← hn, h]; rfl))
        obtain ⟨g, p, rfl, hc⟩ := HS.out.here (by omega)
        have hm : 0 < G.length := by omega
        have c1 := (hc _ hm).1
        have HH : Hid (hullA G = G[0].1) := Lib.hid (hullA_at hm)
        obtain ⟨X, hX⟩ : ∃ z, G[0].1 = z := ⟨_, rfl⟩
        rw [hX] at c1 HH
        simp only [Nat.zero_mul, Nat.add_zero] at c1
        skip
        skip
        skip
        skip
        skip
        have k3 : (0 : Int) < (n : Int) := by omega
        clear hc hX n0 
        clear hm hn
        by_cases tx : X ≤ t
        · have HSAW := Lib.hid (HNX.out HNE.out (by rw [HH.out]; exact tx))
          clear HNX HNN
          go_wp2
          go_returns
          exact ⟨x, true, rfl, HSAW, Lib.hid HW.out.bw⟩
        · have HP := Lib.hid (HNN.out (fun _ => by rw [HH.out]; omega))
          clear HNX HNN
          go_wp2
          go_roundw
          case rel => exact ⟨x - 1, ⟨by omega, by omega⟩, by go_num, HP, HW⟩
          case measure => simp [intOf]; omega
    · have hx : x = -6001 := by omega
      have HSAW : Hid (SawTill ⟨P, N, co, cn, cc, oo, on, oc, cs, os⟩ t 0 false) := Lib.hid ⟨(fun h => by cases h), fun _ => ⟨rfl, fun k sk ne => HN.out k (by have := sk.1; omega) sk.2 ne⟩⟩
      clear hx HN
      go_wp2
      go_returns
      exact ⟨0, false, rfl, HSAW, Lib.hid HW.out.bw⟩
set_option maxHeartbeats 4000000 in
theorem refAt_near (F : Fv) (t : Int) (w : World) (hF : F.At w) (gn : GetsNear F)
    (HH : ∀ (ao : Option Addr) (n c : Nat) (l : List Sp) (W : World), SpAt W ao n c l → ∀ r : Bool, (r = true ↔ mem l t) → Calls Tryz.prog 28 #[.slice ao n c, .int .i64 t] W fun e w' => e = .returned (.bool r) ∧ w' = W) :
    Calls Tryz.prog 9 #[F.v, .int .i64 t, .int .i64 (-6000), .int .i64 6000] w fun e w' => SawOut (SawAt F t) w e w' := by
  have HGN := Lib.hid gn
  have HH := Lib.hid HH
  clear gn
  obtain ⟨P, N, co, cn, cc, oo, on, oc, cs, os⟩ := F
  have LC : Hid (cs.length = cn) := Lib.hid hF.core.len
  have LO : Hid (os.length = on) := Lib.hid hF.odd.len
  have hmc : cn ≤ 9223372036854775807 := Nat.le_trans hF.core.le hF.core.top
  have hmo : on ≤ 9223372036854775807 := Nat.le_trans hF.odd.le hF.odd.top
  obtain ⟨b, hb⟩ : ∃ b, w.heap.size = b := ⟨_, rfl⟩
  obtain ⟨wb, hwb⟩ : ∃ wb, w.alloc (.cells #[.int .i64 P, .int .i64 N, .slice co cn cc, .slice oo on oc] 25) = wb := ⟨_, rfl⟩
  have HBB : Hid (Fbox ⟨P, N, co, cn, cc, oo, on, oc, cs, os⟩ w wb b) := Lib.hid (by rw [← hwb, ← hb]; exact fbox_new hF)
  clear hF
  show Calls Tryz.prog 9 #[.agg #[.int .i64 P, .int .i64 N, .slice co cn cc, .slice oo on oc], .int .i64 t, .int .i64 (-6000), .int .i64 6000] w _
  go_enter Tryz.func9, Tryz.ntmps9
  go_upto_region 1 with fail
  clear hwb hb
  go_wp2
  go_loopw [10] (fun ii wr => ∃ x : Int, (-6000 ≤ x ∧ x ≤ 6001) ∧ ii = .int .i64 x ∧ Hid (∀ k, -6000 ≤ k → k < x → ¬ mem (gr ⟨P, N, co, cn, cc, oo, on, oc, cs, os⟩ k) t) ∧ Hid (Fbox ⟨P, N, co, cn, cc, oo, on, oc, cs, os⟩ w wr b)) (fun ii _ => (6001 - intOf ii).toNat)
  case atStart => exact ⟨-6000, ⟨by omega, by omega⟩, rfl, Lib.hid (fun k h1 h2 => by omega), HBB⟩
  case round =>
    obtain ⟨x, ⟨x1, x2⟩, rfl, HN, HW⟩ := hrel
    by_cases xlt : x ≤ 6000
    · have HX := Lib.hid (HGN.out x ⟨by omega, by omega⟩)
      have HNX : Hid (mem (gr ⟨P, N, co, cn, cc, oo, on, oc, cs, os⟩ x) t → SawAt ⟨P, N, co, cn, cc, oo, on, oc, cs, os⟩ t x true) := Lib.hid (fun h => ⟨fun _ => ⟨⟨by omega, by omega⟩, h⟩, fun h => by cases h⟩)
      have HNN : Hid (¬ mem (gr ⟨P, N, co, cn, cc, oo, on, oc, cs, os⟩ x) t → (∀ k, -6000 ≤ k → k < x + 1 → ¬ mem (gr ⟨P, N, co, cn, cc, oo, on, oc, cs, os⟩ k) t)) := Lib.hid (fun h k h1 h2 => by
        by_cases z : k = x
        · subst z; exact h
        · exact HN.out k (by omega) (by omega))
      have e0 : wr.cell? ⟨b, 0, none⟩ = some (.int .i64 P) := HW.out.c0
      have e1 : wr.cell? ⟨b, 1, none⟩ = some (.int .i64 N) := HW.out.c1
      have e2 : wr.cell? ⟨b, 2, none⟩ = some (.slice co cn cc) := HW.out.c2
      have e3 : wr.cell? ⟨b, 3, none⟩ = some (.slice oo on oc) := HW.out.c3
      obtain ⟨G, hG⟩ : ∃ g, gr ⟨P, N, co, cn, cc, oo, on, oc, cs, os⟩ x = g := ⟨_, rfl⟩
      rw [hG] at HX HNX HNN
      have HX : Hid (∀ W, Fv.At ⟨P, N, co, cn, cc, oo, on, oc, cs, os⟩ W → Calls Tryz.prog 27 #[.agg #[.int .i64 P, .int .i64 N, .slice co cn cc, .slice oo on oc], .int .i64 x] W fun e w' => ∃ (v : Value), e = .returned (.tuple #[v, .int .i64 0]) ∧ Hid (w'.ownsRow W.heap.size 38 2 v G.length (spCells G)) ∧ Hid (Below W.heap.size W w')) := HX
      clear hG HN
      go_wp2_with fail
      (with_reducible refine (HX.out _ HW.out.at_).mono ?_)
      rintro e w2 ⟨v, rfl, HO, q⟩
      have HW := Lib.hid (HW.out.keep q.out)
      clear q e0 e1 e2 e3 HX
      obtain ⟨ao, c, rfl, hs⟩ := own_sp rfl HO.out
      obtain ⟨r, hr⟩ : ∃ r : Bool, r = true ↔ mem G t := by classical exact ⟨decide _, decide_eq_true_iff⟩
      have HR := Lib.hid hr
      have HQ := Lib.hid (HH.out _ _ _ _ _ hs r hr)
      clear HO hs hr HH
      cases r
      · have HP := Lib.hid (HNN.out (fun h => by have := HR.out.2 h; cases this))
        clear HNN HNX HR
        go_wp2_with (go_at_call 28; (with_reducible refine HQ.out.mono ?_); rintro e w' ⟨rfl, rfl⟩)
        go_roundw
        case rel => exact ⟨x + 1, ⟨by omega, by omega⟩, by go_num, HP, HW⟩
        case measure => simp [intOf]; omega
      · have HSAW := Lib.hid (HNX.out (HR.out.1 rfl))
        clear HNN HNX HR
        go_wp2_with (go_at_call 28; (with_reducible refine HQ.out.mono ?_); rintro e w' ⟨rfl, rfl⟩)
        go_returns
        exact ⟨x, true, rfl, HSAW, Lib.hid HW.out.bw⟩
    · have hx : x = 6001 := by omega
      have HSAW : Hid (SawAt ⟨P, N, co, cn, cc, oo, on, oc, cs, os⟩ t 0 false) := Lib.hid ⟨(fun h => by cases h), fun _ => ⟨rfl, fun k sk => HN.out k sk.1 (by have := sk.2; omega)⟩⟩
      clear hx HN
      go_wp2
      go_returns
      exact ⟨0, false, rfl, HSAW, Lib.hid HW.out.bw⟩
theorem inC_append (l k : List Int) : inC (l ++ k) = inC l ++ inC k := by simp [inC]
/-- Numbers more, behind numbers of the call's own. -/
theorem appN {w0 wr : World} {ops : Array Oper} {rest : List Oper} {o : Oper} {a : Act} {Q : Exit → Act → World → Prop} (hgd : o.guard = none) (s x : Operand)
    (ho : o.op = .call { callee := .builtin .append, args := #[s, x], argTypes := #[41, 41] }) (B : Nat) (v : Value) (n : Nat) (l : List Int) (hs : a.eval s = v) (hown : wr.ownsRow B 3 1 v n (inC l)) (ys : List Int) (tt : TypeId) (m c : Nat) (H : Nat) (hH : wr.heap.size = H) (hx : a.eval x = .slice (some ⟨H, 0, none⟩) m c) (cells : Array Value) (hcs : cells = (inC ys).toArray) (hm : ys.length = m) (hn : n ≤ 1000000) (hm2 : m ≤ 1000) (hB : Below B w0 wr) (h0 : B ≤ w0.heap.size)
    (h : ∀ v' w', w'.ownsRow B 3 1 v' (n + m) (inC (l ++ ys)) → Below B w0 w' → (∀ q, q < wr.heap.size → v.ownBlock ≠ some q → v'.ownBlock ≠ some q ∧ w'.heap[q]? = wr.heap[q]?) → wpList Tryz.prog ops Q rest (a.put o.dst v') w') : wpList Tryz.prog ops Q (o :: rest) a (wr.alloc (.cells cells tt)) := by
  subst hcs hH
  obtain ⟨i0, hi, hz0, hz1, hz2⟩ := info_parts info3
  have KA := (Below.refl _ wr).alloc (Nat.le_refl _) (.cells (inC ys).toArray tt)
  have hBs : B ≤ wr.heap.size := Nat.le_trans h0 hB.size
  have hcell : ∀ (j : Nat) (u : Value), (inC ys)[j]? = some u → (wr.alloc (.cells (inC ys).toArray tt)).cell? ((⟨wr.heap.size, 0, none⟩ : Addr).add j) = some u := by
    intro j u hu
    have hh : (wr.alloc (.cells (inC ys).toArray tt)).heap[wr.heap.size]? = some (.cells (inC ys).toArray tt) := by
      show (wr.heap.push _)[wr.heap.size]? = _
      simp
    rw [add_off, Nat.zero_add]
    unfold World.cell?
    rw [hh]
    simpa using hu
  refine wpList_append_own_at _ hgd s x 41 ho B 3 i0 (.int .i64 0) 1 8 Tryz.underlying41 hi hz0 hz1 hz2 rfl (by decide) v n (inC l) hs (keepB hown KA) ⟨wr.heap.size, 0, none⟩ m c (inC ys) hx (by rw [inC_len, hm]; simp) hcell (by intro z hz; simp [inC] at hz; obtain ⟨y, _, rfl⟩ := hz; rfl) (by unfold maxLen; omega) (by omega) (by simp; omega) ?_
  intro v' w' hown' hgro _ hat
  refine h v' w' (by rw [inC_append]; exact hown') ?_ (fun q hq hne => ⟨fun e => ?_, ?_⟩)
  rotate_left 1
  · rcases hat with e2 | e2
    · exact hne (e2.symm.trans e)
    · rw [e] at e2; simp at e2; omega
  · rw [hgro.block q (by simp; omega) (fun e => hne e.symm)]
    exact KA.block q hq
  exact (hB.trans (KA.mono hBs)).grown hgro (by simp; omega) (fun q hq => (hown.lt q hq).1)
theorem in2 {a b : List Sp} {t : Int} : Fk 2 a b t = true ↔ mem a t ∧ mem b t := by
  unfold Fk inB
  simp
/-- A list of numbers of the call's own. -/
def ListOut (S : List Int → Prop) (w : World) (e : Ending) (w' : World) : Prop := ∃ (v : Value) (zs : List Int), e = .returned v ∧ Hid (w'.ownsRow w.heap.size 3 1 v zs.length (inC zs)) ∧ Hid (S zs) ∧ Hid (Below w.heap.size w w')
theorem set_pos {G l r : List Sp} (h : ∃ t, mem G t ∧ mem l t) (m : ∀ t, mem r t ↔ Fk 2 G l t = true) : 0 < r.length := by
  obtain ⟨t, p⟩ := h
  exact List.length_pos_iff.2 (mem_ne ((m t).2 (in2.2 p)))
theorem set_zero {G l r : List Sp} (h : ¬ ∃ t, mem G t ∧ mem l t) (g : Good r) (m : ∀ t, mem r t ↔ Fk 2 G l t = true) : r.length = 0 := by
  rcases Nat.eq_zero_or_pos r.length with z | z
  · exact z
  · exfalso
    have q := (good_at g 0 z).2.1
    exact h ⟨_, in2.1 ((m r[0].1).1 ⟨r[0], List.getElem_mem z, Int.le_refl _, q⟩)⟩
set_option maxRecDepth 20000 in
set_option maxHeartbeats 4000000 in
theorem refOver_near (F : Fv) (lo : Option Addr) (ln lc : Nat) (l : List Sp) (w : World) (hF : F.At w) (gn : GetsNear F) (hs : ∀ i, Seen i → (gr F i).length ≤ 5000 ∧ Spans (gr F i)) (hL : SpAt w lo ln lc l) (hln : ln ≤ 5000) (gl : Spans l) :
    Calls Tryz.prog 18 #[F.v, .slice lo ln lc, .int .i64 (-6000), .int .i64 6000] w fun e w' => ListOut (SawOver F l) w e w' := by
  have HGN := Lib.hid gn
  have HSH := Lib.hid hs
  have HGL := Lib.hid gl
  have HSL := Lib.hid hL
  clear gn hs gl hL
  obtain ⟨P, N, co, cn, cc, oo, on, oc, cs, os⟩ := F
  have LC : Hid (cs.length = cn) := Lib.hid hF.core.len
  have LO : Hid (os.length = on) := Lib.hid hF.odd.len
  have hmc : cn ≤ 9223372036854775807 := Nat.le_trans hF.core.le hF.core.top
  have hmo : on ≤ 9223372036854775807 := Nat.le_trans hF.odd.le hF.odd.top
  obtain ⟨b, hb⟩ : ∃ b, w.heap.size = b := ⟨_, rfl⟩
  obtain ⟨wb, hwb⟩ : ∃ wb, w.alloc (.cells #[.int .i64 P, .int .i64 N, .slice co cn cc, .slice oo on oc] 25) = wb := ⟨_, rfl⟩
  have HBB : Hid (Fbox ⟨P, N, co, cn, cc, oo, on, oc, cs, os⟩ w wb b) := Lib.hid (by rw [← hwb, ← hb]; exact fbox_new hF)
  clear hF
  show Calls Tryz.prog 18 #[.agg #[.int .i64 P, .int .i64 N, .slice co cn cc, .slice oo on oc], .slice lo ln lc, .int .i64 (-6000), .int .i64 6000] w _
  go_enter Tryz.func18, Tryz.ntmps18
  go_upto_region 1 with fail
  clear hwb hb
  have HSL := Lib.hid (HSL.out.keep HBB.out.bw)
  go_wp2
  go_loopw [9, 10] (fun vv ii wr => ∃ (vo : Value) (x : Int) (zs : List Int), vo = vv ∧ (-6000 ≤ x ∧ x ≤ 6001) ∧ ii = .int .i64 x ∧ Hid (wr.ownsRow wb.heap.size 3 1 vo zs.length (inC zs)) ∧ Hid (zs.Pairwise (· < ·) ∧ (zs.length : Int) ≤ x + 6000 ∧ ∀ i, i ∈ zs ↔ (-6000 ≤ i ∧ i < x) ∧ MeetL ⟨P, N, co, cn, cc, oo, on, oc, cs, os⟩ l i) ∧ Hid (Below wb.heap.size wb wr)) (fun vv ii _ => (6001 - intOf ii).toNat)
  case atStart => exact ⟨_, -6000, [], rfl, ⟨by omega, by omega⟩, rfl, Lib.hid (World.ownsRow_nil _ _ _ _), Lib.hid ⟨List.Pairwise.nil, by simp, fun i => ⟨(fun h => by cases h), fun ⟨h, _⟩ => by omega⟩⟩, Lib.hid (Below.refl _ _)⟩
  case round =>
    obtain ⟨vo, x, zs, rfl, ⟨x1, x2⟩, rfl, HO, HN, HB⟩ := hrel
    by_cases xlt : x ≤ 6000
    · have HW := Lib.hid (HBB.out.keep HB.out)
      have HX := Lib.hid (HGN.out x ⟨by omega, by omega⟩)
      have HXS := Lib.hid (HSH.out x ⟨by omega, by omega⟩)
      have HNY : Hid (MeetL ⟨P, N, co, cn, cc, oo, on, oc, cs, os⟩ l x → ((zs ++ [x]).Pairwise (· < ·) ∧ ((zs ++ [x]).length : Int) ≤ (x + 1) + 6000 ∧ ∀ i, i ∈ (zs ++ [x]) ↔ (-6000 ≤ i ∧ i < (x + 1)) ∧ MeetL ⟨P, N, co, cn, cc, oo, on, oc, cs, os⟩ l i)) := Lib.hid (fun h => by
        obtain ⟨a1, a2, a3⟩ := HN.out
        refine ⟨List.pairwise_append.2 ⟨a1, by simp, fun y hy z hz => ?_⟩, by simp; omega, fun i => ?_⟩
        · rw [List.mem_singleton.1 hz]; exact ((a3 y).1 hy).1.2
        · rw [List.mem_append, a3, List.mem_singleton]
          constructor
          · rintro (⟨p, q⟩ | rfl)
            · exact ⟨⟨p.1, by omega⟩, q⟩
            · exact ⟨⟨by omega, by omega⟩, h⟩
          · rintro ⟨p, q⟩
            by_cases z : i = x
            · exact .inr z
            · exact .inl ⟨⟨p.1, by omega⟩, q⟩)
      have HNN : Hid (¬ MeetL ⟨P, N, co, cn, cc, oo, on, oc, cs, os⟩ l x → (zs.Pairwise (· < ·) ∧ (zs.length : Int) ≤ (x + 1) + 6000 ∧ ∀ i, i ∈ zs ↔ (-6000 ≤ i ∧ i < (x + 1)) ∧ MeetL ⟨P, N, co, cn, cc, oo, on, oc, cs, os⟩ l i)) := Lib.hid (fun h => by
        obtain ⟨a1, a2, a3⟩ := HN.out
        refine ⟨a1, by omega, fun i => ?_⟩
        rw [a3]
        constructor
        · rintro ⟨p, q⟩; exact ⟨⟨p.1, by omega⟩, q⟩
        · rintro ⟨p, q⟩
          by_cases z : i = x
          · subst z; exact absurd q h
          · exact ⟨⟨p.1, by omega⟩, q⟩)
      have ZL : zs.length ≤ 20000 := by have := HN.out.2.1; omega
      have e0 : wr.cell? ⟨b, 0, none⟩ = some (.int .i64 P) := HW.out.c0
      have e1 : wr.cell? ⟨b, 1, none⟩ = some (.int .i64 N) := HW.out.c1
      have e2 : wr.cell? ⟨b, 2, none⟩ = some (.slice co cn cc) := HW.out.c2
      have e3 : wr.cell? ⟨b, 3, none⟩ = some (.slice oo on oc) := HW.out.c3
      have HME : Hid (MeetL ⟨P, N, co, cn, cc, oo, on, oc, cs, os⟩ l x ↔ ∃ t, mem (gr ⟨P, N, co, cn, cc, oo, on, oc, cs, os⟩ x) t ∧ mem l t) := Lib.hid Iff.rfl
      obtain ⟨MM, hMM⟩ : ∃ q, MeetL ⟨P, N, co, cn, cc, oo, on, oc, cs, os⟩ l x = q := ⟨_, rfl⟩
      rw [hMM] at HME HNY HNN
      obtain ⟨G, hG⟩ : ∃ g, gr ⟨P, N, co, cn, cc, oo, on, oc, cs, os⟩ x = g := ⟨_, rfl⟩
      rw [hG] at HX HXS HME
      have HX : Hid (∀ W, Fv.At ⟨P, N, co, cn, cc, oo, on, oc, cs, os⟩ W → Calls Tryz.prog 27 #[.agg #[.int .i64 P, .int .i64 N, .slice co cn cc, .slice oo on oc], .int .i64 x] W fun e w' => ∃ (v : Value), e = .returned (.tuple #[v, .int .i64 0]) ∧ Hid (w'.ownsRow W.heap.size 38 2 v G.length (spCells G)) ∧ Hid (Below W.heap.size W w')) := HX
      have HWS := Lib.hid HB.out.size
      clear hG HN hMM
      go_wp2_with fail
      (with_reducible refine (HX.out _ HW.out.at_).mono ?_)
      rintro e w2 ⟨v, rfl, HGO, q⟩
      have HO := Lib.hid (keepB HO.out (q.out.mono (Nat.le_refl _)))
      have HB := Lib.hid (HB.out.trans (q.out.mono HWS.out))
      clear q e0 e1 e2 e3 HX HW
      obtain ⟨ao, c, rfl, hs⟩ := own_sp rfl HGO.out
      have HQ := Lib.hid (refSet_any 2 ao lo _ c ln lc G l HXS.out.1 hln HXS.out.2 HGL.out w2 hs (HSL.out.keep HB.out))
      clear hs HGO
      have HWS2 := Lib.hid HB.out.size
      by_cases hm : MM
      · have HY := Lib.hid (HNY.out hm)
        clear HNY HNN
        have HM2 := Lib.hid (HME.out.1 hm)
        go_wp2_with (first | (go_at_call 47; (with_reducible refine HQ.out.mono ?_); rintro e w3 ⟨v3, r3, rfl, g3, m3, l3, o3, b3⟩; have n3 := set_pos HM2.out m3; obtain ⟨a3, c3, rfl, s3⟩ := own_sp rfl o3; have HB3 := Lib.hid (HB.out.trans (b3.mono HWS2.out)); have HO3 := Lib.hid (keepB HO.out b3); clear g3 m3 l3 o3 b3 s3) | (at_builtin; refine appN (w0 := wb) rfl _ _ rfl wb.heap.size vo zs.length zs (by rfl) HO3.out [x] _ 1 1 _ rfl (by rfl) _ rfl rfl (by omega) (by omega) HB3.out (Nat.le_refl _) ?_; intro v4 w4 ho4 hb4 _; have HO4 := Lib.hid ho4; have HB4 := Lib.hid hb4; clear ho4 hb4))
        go_roundw
        case rel => exact ⟨v4, x + 1, zs ++ [x], rfl, ⟨by omega, by omega⟩, by go_num, Lib.hid (by rw [List.length_append]; exact HO4.out), HY, HB4⟩
        case measure => simp [intOf]; omega
      · have HY := Lib.hid (HNN.out hm)
        clear HNY HNN
        have HM2 := Lib.hid (fun h => hm (HME.out.2 h))
        go_wp2_with (go_at_call 47; (with_reducible refine HQ.out.mono ?_); rintro e w3 ⟨v3, r3, rfl, g3, m3, l3, o3, b3⟩; have n3 := set_zero HM2.out g3 m3; obtain ⟨a3, c3, rfl, s3⟩ := own_sp rfl o3; have HB3 := Lib.hid (HB.out.trans (b3.mono HWS2.out)); have HO3 := Lib.hid (keepB HO.out b3); clear g3 m3 l3 o3 b3 s3)
        go_roundw
        case rel => exact ⟨vo, x + 1, zs, rfl, ⟨by omega, by omega⟩, by go_num, HO3, HY, HB3⟩
        case measure => simp [intOf]; omega
    · have hx : x = 6001 := by omega
      have HSAW : Hid (SawOver ⟨P, N, co, cn, cc, oo, on, oc, cs, os⟩ l zs) := Lib.hid ⟨HN.out.1, fun i => by
        rw [HN.out.2.2]
        constructor
        · rintro ⟨p, q⟩; exact ⟨⟨p.1, by omega⟩, q⟩
        · rintro ⟨p, q⟩; exact ⟨⟨p.1, by have := p.2; omega⟩, q⟩⟩
      have HFO := Lib.hid (own_base HO.out HBB.out.bw.size)
      have HFB := Lib.hid (HBB.out.bw.trans (HB.out.mono HBB.out.bw.size))
      clear hx HN
      go_wp2
      go_returns
      exact ⟨vo, zs, rfl, HFO, HSAW, HFB⟩
def NearB (F : Fv) : Prop := F.P ≤ 200 ∧ (∀ l ∈ F.cs, l ≠ [] → -100 ≤ hullA l ∧ hullB l ≤ 100) ∧ ∀ o ∈ F.os, -100 ≤ o.1 ∧ o.1 ≤ 100
set_option maxHeartbeats 4000000 in
theorem near_any (F : Fv) (w : World) (hF : F.At w) (r : Bool) (hr : r = true ↔ NearB F) :
    Calls Tryz.prog 5 #[F.v] w fun e w' => e = .returned (.bool r) ∧ Below w.heap.size w w' := by
  have HR := Lib.hid hr
  clear hr
  obtain ⟨P, N, co, cn, cc, oo, on, oc, cs, os⟩ := F
  have LC : Hid (cs.length = cn) := Lib.hid hF.core.len
  have LO : Hid (os.length = on) := Lib.hid hF.odd.len
  have hmc : cn ≤ 9223372036854775807 := Nat.le_trans hF.core.le hF.core.top
  have hmo : on ≤ 9223372036854775807 := Nat.le_trans hF.odd.le hF.odd.top
  have HR : Hid (r = true ↔ P ≤ 200 ∧ (∀ l ∈ cs, l ≠ [] → -100 ≤ hullA l ∧ hullB l ≤ 100) ∧ ∀ o ∈ os, -100 ≤ o.1 ∧ o.1 ≤ 100) := HR
  have p1 : -9223372036854775808 ≤ P := hF.p1
  have p2 : P ≤ 9223372036854775807 := hF.p2
  obtain ⟨b, hb⟩ : ∃ b, w.heap.size = b := ⟨_, rfl⟩
  obtain ⟨wb, hwb⟩ : ∃ wb, w.alloc (.cells #[.int .i64 P, .int .i64 N, .slice co cn cc, .slice oo on oc] 25) = wb := ⟨_, rfl⟩
  have HBB : Hid (Fbox ⟨P, N, co, cn, cc, oo, on, oc, cs, os⟩ w wb b) := Lib.hid (by rw [← hwb, ← hb]; exact fbox_new hF)
  clear hF
  show Calls Tryz.prog 5 #[.agg #[.int .i64 P, .int .i64 N, .slice co cn cc, .slice oo on oc]] w _
  go_enter Tryz.func5, Tryz.ntmps5
  go_upto_region 1 with fail
  clear hwb hb
  have e2 : wb.cell? ⟨b, 2, none⟩ = some (.slice co cn cc) := HBB.out.c2
  go_wp2
  clear e2
  go_loopw [12] (fun ii wr => ∃ k : Nat, k ≤ cn ∧ ii = .int .i64 k ∧ Hid (∀ j (h : j < cs.length), j < k → cs[j] ≠ [] → -100 ≤ hullA cs[j] ∧ hullB cs[j] ≤ 100) ∧ Hid (Fbox ⟨P, N, co, cn, cc, oo, on, oc, cs, os⟩ w wr b)) (fun ii _ => cn - (intOf ii).toNat)
  case atStart => exact ⟨0, Nat.zero_le _, rfl, Lib.hid (fun j _ h => absurd h (Nat.not_lt_zero _)), HBB⟩
  case round =>
    obtain ⟨k, hk, rfl, HN, HW⟩ := hrel
    by_cases klt : k < cn
    · obtain ⟨g, p, rfl, hc⟩ := (show CoAt wr co cn cc cs from HW.out.at_.core).here (by omega)
      have hkl : k < cs.length := by rw [LC.out]; exact klt
      obtain ⟨o, m, d, d2, d3⟩ := hc k hkl
      have HY : Hid (¬ (cs[k] ≠ [] → -100 ≤ hullA cs[k] ∧ hullB cs[k] ≤ 100) → false = r) := Lib.hid (fun h => by
        cases r
        · rfl
        · exact absurd ((HR.out.1 rfl).2.1 _ (List.getElem_mem hkl)) h)
      have HX : Hid ((cs[k] ≠ [] → -100 ≤ hullA cs[k] ∧ hullB cs[k] ≤ 100) → ∀ j (h : j < cs.length), j < k + 1 → cs[j] ≠ [] → -100 ≤ hullA cs[j] ∧ hullB cs[j] ≤ 100) := Lib.hid (fun e j hj q => by
        by_cases z : j = k
        · subst z; exact e
        · exact HN.out j hj (by omega))
      have HH := Lib.hid (hull_v o m d cs[k] wr d3)
      have HLM : Hid (cs[k] = [] ↔ m = 0) := Lib.hid ⟨fun h => by rw [← d3.len, h]; rfl, fun h => List.eq_nil_of_length_eq_zero (by rw [d3.len]; exact h)⟩
      obtain ⟨L, hL⟩ : ∃ q, cs[k] = q := ⟨_, rfl⟩
      rw [hL] at HY HX HH HLM
      have i0 : (0 : Int) ≤ (k : Int) := by omega
      have i1 : (k : Int) < (cn : Int) := by omega
      clear hc d3 hL HN
      clear hkl
      go_wp2_with fail
      (with_reducible refine HH.out.mono ?_)
      rintro e w3 ⟨x, y, ok, rfl, HXY, q⟩
      have HW := Lib.hid (HW.out.keep q)
      clear q HH
      obtain ⟨hx, hy, hok⟩ := HXY.out
      have HW2 := Lib.hid (HW.out.keep ((Below.refl _ w3).alloc (Nat.le_refl _) (.cells #[.int .i64 x, .int .i64 y] 38)))
      have f1 := (box_cells w3 (.int .i64 x) (.int .i64 y) 38).1
      have f2 := (box_cells w3 (.int .i64 x) (.int .i64 y) 38).2
      have HOK : Hid (ok = true ↔ L ≠ []) := Lib.hid (by rw [hok, decide_eq_true_iff]; exact ⟨fun h z => by have := HLM.out.1 z; omega, fun h => Nat.pos_of_ne_zero (fun z => h (HLM.out.2 z))⟩)
      rw [← hx, ← hy] at HY HX
      clear hx hy hok HXY HLM
      cases ok
      · have HE := Lib.hid (HX.out (fun h => by have := HOK.out.2 h; cases this))
        clear HY HX HOK
        go_wp2
        go_roundw
        case rel => exact ⟨k + 1, by omega, by go_num, HE, HW2⟩
        case measure => simp [intOf]; omega
      · have HNE := Lib.hid (HOK.out.1 rfl)
        by_cases c1 : x < -100
        · have HE := Lib.hid (HY.out (fun h => by have := h HNE.out; omega))
          clear HY HX HOK
          go_wp2
          go_returns
          exact ⟨ret_bool HE.out, HW2.out.bw⟩
        · by_cases c2 : 100 < y
          · have HE := Lib.hid (HY.out (fun h => by have := h HNE.out; omega))
            clear HY HX HOK
            go_wp2
            go_returns
            exact ⟨ret_bool HE.out, HW2.out.bw⟩
          · have HE := Lib.hid (HX.out (fun _ => ⟨by omega, by omega⟩))
            clear HY HX HOK
            go_wp2
            go_roundw
            case rel => exact ⟨k + 1, by omega, by go_num, HE, HW2⟩
            case measure => simp [intOf]; omega
    · obtain rfl : cn = k := by omega
      have HC : Hid (∀ l ∈ cs, l ≠ [] → -100 ≤ hullA l ∧ hullB l ≤ 100) := Lib.hid (fun l hl => by
        obtain ⟨j, hj, rfl⟩ := List.getElem_of_mem hl
        exact HN.out j hj (by rw [← LC.out]; exact hj))
      have e3 : wr.cell? ⟨b, 3, none⟩ = some (.slice oo on oc) := HW.out.c3
      clear HN
      go_wp2
      clear e3
      go_loopw [36] (fun ii wr => ∃ k : Nat, k ≤ on ∧ ii = .int .i64 k ∧ Hid (∀ j (h : j < os.length), j < k → -100 ≤ os[j].1 ∧ os[j].1 ≤ 100) ∧ Hid (Fbox ⟨P, N, co, cn, cc, oo, on, oc, cs, os⟩ w wr b)) (fun ii _ => on - (intOf ii).toNat)
      case atStart => exact ⟨0, Nat.zero_le _, rfl, Lib.hid (fun j _ h => absurd h (Nat.not_lt_zero _)), HW⟩
      case round =>
        obtain ⟨k, hk, rfl, HN, HW⟩ := hrel
        by_cases klt : k < on
        · obtain ⟨g, p, rfl, hc⟩ := (show OdAt wr oo on oc os from HW.out.at_.odd).here (by omega)
          have hkl : k < os.length := by rw [LO.out]; exact klt
          obtain ⟨d1, ⟨o, m, d, d2, d3⟩, d4, d5⟩ := hc k hkl
          have HY : Hid (¬ (-100 ≤ os[k].1 ∧ os[k].1 ≤ 100) → false = r) := Lib.hid (fun h => by
            cases r
            · rfl
            · exact absurd ((HR.out.1 rfl).2.2 _ (List.getElem_mem hkl)) h)
          have HX : Hid ((-100 ≤ os[k].1 ∧ os[k].1 ≤ 100) → ∀ j (h : j < os.length), j < k + 1 → -100 ≤ os[j].1 ∧ os[j].1 ≤ 100) := Lib.hid (fun e j hj q => by
            by_cases z : j = k
            · subst z; exact e
            · exact HN.out j hj (by omega))
          obtain ⟨X, hX⟩ : ∃ q, os[k].1 = q := ⟨_, rfl⟩
          rw [hX] at d1 d4 d5 HY HX
          have i0 : (0 : Int) ≤ (k : Int) := by omega
          have i1 : (k : Int) < (on : Int) := by omega
          have HW2 := Lib.hid (HW.out.keep ((Below.refl _ wr).alloc (Nat.le_refl _) (.cells #[.int .i64 X, .slice o m d] 50)))
          have f1 := (box_cells wr (.int .i64 X) (.slice o m d) 50).1
          clear hc d3 hX HN
          clear hkl
          by_cases c1 : X < -100
          · have HE := Lib.hid (HY.out (fun h => by omega))
            clear HY HX
            go_wp2
            go_returns
            exact ⟨ret_bool HE.out, HW2.out.bw⟩
          · by_cases c2 : 100 < X
            · have HE := Lib.hid (HY.out (fun h => by omega))
              clear HY HX
              go_wp2
              go_returns
              exact ⟨ret_bool HE.out, HW2.out.bw⟩
            · have HE := Lib.hid (HX.out ⟨by omega, by omega⟩)
              clear HY HX
              go_wp2
              go_roundw
              case rel => exact ⟨k + 1, by omega, by go_num, HE, HW2⟩
              case measure => simp [intOf]; omega
        · obtain rfl : on = k := by omega
          have HO : Hid (∀ o ∈ os, -100 ≤ o.1 ∧ o.1 ≤ 100) := Lib.hid (fun l hl => by
            obtain ⟨j, hj, rfl⟩ := List.getElem_of_mem hl
            exact HN.out j hj (by rw [← LO.out]; exact hj))
          have e0 : wr.cell? ⟨b, 0, none⟩ = some (.int .i64 P) := HW.out.c0
          have HE : Hid (decide (P ≤ 200) = r) := Lib.hid (by
            by_cases z : P ≤ 200
            · rw [HR.out.2 ⟨z, HC.out, HO.out⟩]; simp [z]
            · cases r
              · simp [z]
              · exact absurd (HR.out.1 rfl).1 z)
          clear HN
          go_wp2
          go_returns
          exact ⟨ret_bool HE.out, HW.out.bw⟩
def Mk7 (F : Fv) (w : World) (b : Nat) (G : Fv) (wg : World) (bk : Nat) (s7 s8 : Value) (wx : World) : Prop := ∃ (ao : Option Addr) (n c : Nat) (r : List Sp) (k : Int), s7 = .slice ao n c ∧ s8 = .int .i64 k ∧ Hid (Good r ∧ n ≤ 8 ∧ SpAt wx ao n c r) ∧ Hid (Fbox F w wx b ∧ Fbox G wg wx bk)
theorem spat_none {n : Nat} {w : World} {ao : Option Addr} {c : Nat} {U : List Sp} (h : SpAt w ao n c U) (z : ¬ 0 < n) : U = [] := List.eq_nil_of_length_eq_zero (by have := h.len; omega)
theorem over_k0 {F : Fv} (nf : NearF F) (ok : F.Ok) {l : List Sp} (g : Good l) (l1 : -300 ≤ hullA l) (l2 : hullB l ≤ 300) {xs : List Int} {k : Int} (h : OverIs F l xs k) : k = 0 :=
  (over_few h g seenL_inc (by rw [seenL_len]; omega) (fun i e ⟨t, m, x, y⟩ => seenL_mem (seen_of nf ok (by omega) (by omega) e m))).1
theorem sameF_own {P N : Int} {co ko oo qo : Option Addr} {cn cc kc on oc qc : Nat} {cs : List (List Sp)} {os : List Gr} : SameF ⟨P, N, co, cn, cc, oo, on, oc, cs, os⟩ ⟨P, N, ko, cn, kc, qo, on, qc, cs, os⟩ := by
  unfold SameF
  exact ⟨rfl, rfl, rfl, rfl⟩
structure Known7 (F : Fv) : Prop where
  rt : F.Rt
  ok : F.Ok
  cn : F.cn ≤ 10000
  nf : NearF F
  ln : F.cs.length = F.cn
  gn : GetsNear F
  sh : ∀ i, Seen i → (gr F i).length ≤ 5000 ∧ Spans (gr F i)
  on : F.on ≤ 1000000
theorem made8_any (ao : Option Addr) (n c : Nat) (l : List Sp) (w : World) (hl : SpAt w ao n c l) (hn : n ≤ 8) : Calls Tryz.prog 14 #[.slice ao n c] w fun e w' => ∃ (ao' : Option Addr) (n' c' : Nat) (r : List Sp) (k : Int), e = .returned (.tuple #[.slice ao' n' c', .int .i64 k]) ∧ Hid (Good r ∧ n' ≤ 8 ∧ SpAt w' ao' n' c' r) ∧ Hid (Below w.heap.size w w') :=
  (make_all ao n c l (by omega) w hl).mono (by
    rintro e w' ⟨v, k, rfl, hb, hm⟩
    rcases hm with ⟨_, _, rfl⟩ | ⟨_, _, _, rfl⟩ | ⟨_, _, _, r, h1, _, h3, h4⟩
    · exact ⟨none, 0, 0, [], k, rfl, Lib.hid ⟨trivial, by omega, SpAt.nil _⟩, Lib.hid hb⟩
    · exact ⟨none, 0, 0, [], k, rfl, Lib.hid ⟨trivial, by omega, SpAt.nil _⟩, Lib.hid hb⟩
    · obtain ⟨ao', c', e, hs⟩ := own_sp rfl h4
      subst e
      exact ⟨ao', _, c', r, k, rfl, Lib.hid ⟨h1, by have := hl.len; omega, hs⟩, Lib.hid hb⟩)
theorem gets_near {F : Fv} (ok : F.Ok) (nf : NearF F) : GetsNear F := fun i s W h => refGet_near F i W h ok nf.per s.1 s.2 (near_seen nf ok s) (fun ao n c l g hn d d1 d2 w hl => refMove_any ao n c l g hn d d1 d2 w hl)
theorem fit_other {P N : Int} {co ko oo qo : Option Addr} {cn cc kc on oc qc : Nat} {cs : List (List Sp)} {os : List Gr} (h : FitOk ⟨P, N, co, cn, cc, oo, on, oc, cs, os⟩) : FitOk ⟨P, N, ko, cn, kc, qo, on, qc, cs, os⟩ := by
  intro i
  exact ⟨fun hi j nr => (h i).1 hi j ⟨nr.yes, nr.no, nr.low, nr.high⟩, fun hi j nr => (h i).2 hi j ⟨nr.yes, nr.no, nr.low, nr.high⟩⟩
set_option maxRecDepth 20000 in
set_option maxHeartbeats 8000000 in
theorem tells_any (F : Fv) (at_ : Int) (lo : Option Addr) (ln lc : Nat) (l : List Sp) (w : World) (hF : F.At w) (hL : SpAt w lo ln lc l) (a1 : -32768 ≤ at_) (a2 : at_ ≤ 32767)
    (KN : F.Small → F.Rt → NearB F → Known7 F) :
    Calls Tryz.prog 3 #[F.v, .int .i16 at_, .slice lo ln lc] w fun e w' => e = .returned (.bool true) ∧ Below w.heap.size w w' := by
  have HAW := Lib.hid (fun W => awake_any W)
  obtain ⟨r, hr⟩ : ∃ r : Bool, r = true ↔ F.Small ∧ F.Rt := by classical exact ⟨decide _, decide_eq_true_iff⟩
  obtain ⟨s, hs⟩ : ∃ s : Bool, s = true ↔ NearB F := by classical exact ⟨decide _, decide_eq_true_iff⟩
  have HRI := Lib.hid (fun W h => right_any2 F W h r hr)
  have HNE := Lib.hid (fun W h => near_any F W h s hs)
  have HKN : Hid (r = true → s = true → Known7 F) := Lib.hid (fun p q => KN (hr.1 p).1 (hr.1 p).2 (hs.1 q))
  have HLS := Lib.hid hL
  have hle := hL.le
  have htop := hL.top
  have htl := Int.tmod_lt_of_pos at_ (show (0 : Int) < 200 by omega)
  have htg := Int.lt_tmod_of_pos at_ (show (0 : Int) < 200 by omega)
  have HMK := Lib.hid (fun ao n c l w hl hn => made8_any ao n c l w hl hn)
  clear hr hs hL KN
  obtain ⟨P, N, co, cn, cc, oo, on, oc, cs, os⟩ := F
  have LC : Hid (cs.length = cn) := Lib.hid hF.core.len
  have LO : Hid (os.length = on) := Lib.hid hF.odd.len
  have hmc : cn ≤ 9223372036854775807 := Nat.le_trans hF.core.le hF.core.top
  have hmo : on ≤ 9223372036854775807 := Nat.le_trans hF.odd.le hF.odd.top
  obtain ⟨b, hb⟩ : ∃ b, w.heap.size = b := ⟨_, rfl⟩
  obtain ⟨wb, hwb⟩ : ∃ wb, w.alloc (.cells #[.int .i64 P, .int .i64 N, .slice co cn cc, .slice oo on oc] 25) = wb := ⟨_, rfl⟩
  have HBB : Hid (Fbox ⟨P, N, co, cn, cc, oo, on, oc, cs, os⟩ w wb b) := Lib.hid (by rw [← hwb, ← hb]; exact fbox_new hF)
  clear hF
  show Calls Tryz.prog 3 #[.agg #[.int .i64 P, .int .i64 N, .slice co cn cc, .slice oo on oc], .int .i16 at_, .slice lo ln lc] w _
  go_enter Tryz.func3, Tryz.ntmps3
  go_upto_region 1 with fail
  clear hwb hb
  have HRI : Hid (∀ W, Fv.At ⟨P, N, co, cn, cc, oo, on, oc, cs, os⟩ W → Calls Tryz.prog 4 #[.agg #[.int .i64 P, .int .i64 N, .slice co cn cc, .slice oo on oc]] W fun e w' => e = .returned (.bool r) ∧ Below W.heap.size W w') := HRI
  have HNE : Hid (∀ W, Fv.At ⟨P, N, co, cn, cc, oo, on, oc, cs, os⟩ W → Calls Tryz.prog 5 #[.agg #[.int .i64 P, .int .i64 N, .slice co cn cc, .slice oo on oc]] W fun e w' => e = .returned (.bool s) ∧ Below W.heap.size W w') := HNE
  have e0 : wb.cell? ⟨b, 0, none⟩ = some (.int .i64 P) := HBB.out.c0
  have e1 : wb.cell? ⟨b, 1, none⟩ = some (.int .i64 N) := HBB.out.c1
  have e2 : wb.cell? ⟨b, 2, none⟩ = some (.slice co cn cc) := HBB.out.c2
  have e3 : wb.cell? ⟨b, 3, none⟩ = some (.slice oo on oc) := HBB.out.c3
  go_wp2_with fail
  (with_reducible refine (HRI.out _ HBB.out.at_).mono ?_)
  rintro e w2 ⟨rfl, q⟩
  have HBB := Lib.hid (HBB.out.keep q)
  clear q e0 e1 e2 e3 HRI
  cases r
  · clear HKN HNE
    go_wp2_with fail
    (with_reducible refine (HAW.out _).mono ?_)
    rintro e wz ⟨rfl, q⟩
    have HBB := Lib.hid (HBB.out.keep q)
    clear q
    go_wp2
    go_returns
    exact ⟨rfl, HBB.out.bw⟩
  · skip
    have e0 : w2.cell? ⟨b, 0, none⟩ = some (.int .i64 P) := HBB.out.c0
    have e1 : w2.cell? ⟨b, 1, none⟩ = some (.int .i64 N) := HBB.out.c1
    have e2 : w2.cell? ⟨b, 2, none⟩ = some (.slice co cn cc) := HBB.out.c2
    have e3 : w2.cell? ⟨b, 3, none⟩ = some (.slice oo on oc) := HBB.out.c3
    go_wp2_with fail
    (with_reducible refine (HNE.out _ HBB.out.at_).mono ?_)
    rintro e w3 ⟨rfl, q⟩
    have HBB := Lib.hid (HBB.out.keep q)
    clear q e0 e1 e2 e3 HNE
    cases s
    · clear HKN
      go_wp2_with fail
      (with_reducible refine (HAW.out _).mono ?_)
      rintro e wz ⟨rfl, q⟩
      have HBB := Lib.hid (HBB.out.keep q)
      clear q
      go_wp2
      go_returns
      exact ⟨rfl, HBB.out.bw⟩
    · have HK := Lib.hid (HKN.out (by first | rfl | trivial) (by first | rfl | trivial))
      clear HKN
      have e0 : w3.cell? ⟨b, 0, none⟩ = some (.int .i64 P) := HBB.out.c0
      have e1 : w3.cell? ⟨b, 1, none⟩ = some (.int .i64 N) := HBB.out.c1
      have e2 : w3.cell? ⟨b, 2, none⟩ = some (.slice co cn cc) := HBB.out.c2
      have e3 : w3.cell? ⟨b, 3, none⟩ = some (.slice oo on oc) := HBB.out.c3
      have HAN := Lib.hid (anewForm_any ⟨P, N, co, cn, cc, oo, on, oc, cs, os⟩ w3 HBB.out.at_ (Nat.le_trans HK.out.cn (by decide)) HK.out.on HK.out.ok.lenC HK.out.ok.lenO)
      have HAN : Hid (Calls Tryz.prog 7 #[.agg #[.int .i64 P, .int .i64 N, .slice co cn cc, .slice oo on oc]] w3 fun e w' => ∃ vc vo, e = .returned (.agg #[.int .i64 P, .int .i64 N, vc, vo]) ∧ Hid (CoOwn w' w3.heap.size vc cn cs ∧ OdOwn w' w3.heap.size vo on os) ∧ Hid (Below w3.heap.size w3 w')) := HAN
      go_wp2_with fail
      (with_reducible refine HAN.out.mono ?_)
      rintro e w4 ⟨vk, vq, rfl, hown, q⟩
      have HBB := Lib.hid (HBB.out.keep q.out)
      clear e0 e1 e2 e3
      obtain ⟨ko, kc, rfl, hko⟩ := hown.out.1.vs
      obtain ⟨qo, qc, rfl, hqo⟩ := hown.out.2.vs
      have HGA : Hid (Fv.At ⟨P, N, ko, cn, kc, qo, on, qc, cs, os⟩ w4) := Lib.hid ⟨HBB.out.at_.p1, HBB.out.at_.p2, HBB.out.at_.n1, HBB.out.at_.n2, hko, hqo, HBB.out.at_.short⟩
      have HRG : Hid (Fv.Rt ⟨P, N, ko, cn, kc, qo, on, qc, cs, os⟩ ∧ Fv.Ok ⟨P, N, ko, cn, kc, qo, on, qc, cs, os⟩) := Lib.hid ⟨⟨HK.out.rt.meas, HK.out.rt.core, HK.out.rt.odd, HK.out.rt.ris, fit_other HK.out.rt.fit⟩, ⟨HK.out.ok.meas, HK.out.ok.core, HK.out.ok.odd, HK.out.ok.lenC, HK.out.ok.lenO, HK.out.ok.cn, HK.out.ok.on⟩⟩
      clear q hown hko hqo HAN
      dsimp only
      have KB := Lib.hid (fbox_new HGA.out)
      obtain ⟨bk, hbk⟩ : ∃ q, w4.heap.size = q := ⟨_, rfl⟩
      obtain ⟨wk, hwk⟩ : ∃ q, w4.alloc (.cells #[.int .i64 P, .int .i64 N, .slice ko cn kc, .slice qo on qc] 25) = q := ⟨_, rfl⟩
      have HGB : Hid (Fbox ⟨P, N, ko, cn, kc, qo, on, qc, cs, os⟩ w4 wk bk) := Lib.hid (by rw [← hwk, ← hbk]; exact KB.out)
      have HBB := Lib.hid (HBB.out.keep HGB.out.bw)
      clear KB HGA
      have e0 : wk.cell? ⟨b, 0, none⟩ = some (.int .i64 P) := HBB.out.c0
      have e1 : wk.cell? ⟨b, 1, none⟩ = some (.int .i64 N) := HBB.out.c1
      have e2 : wk.cell? ⟨b, 2, none⟩ = some (.slice co cn cc) := HBB.out.c2
      have e3 : wk.cell? ⟨b, 3, none⟩ = some (.slice oo on oc) := HBB.out.c3
      have g0 : wk.cell? ⟨bk, 0, none⟩ = some (.int .i64 P) := HGB.out.c0
      have g1 : wk.cell? ⟨bk, 1, none⟩ = some (.int .i64 N) := HGB.out.c1
      have g2 : wk.cell? ⟨bk, 2, none⟩ = some (.slice ko cn kc) := HGB.out.c2
      have g3 : wk.cell? ⟨bk, 3, none⟩ = some (.slice qo on qc) := HGB.out.c3
      go_wp2_with fail
      (with_reducible refine ((at_any ⟨P, N, ko, cn, kc, qo, on, qc, cs, os⟩ (at_.tmod 200) wk HGB.out.at_ HRG.out.1 HRG.out.2 HK.out.cn (by omega) (by omega) : Calls Tryz.prog 8 #[.agg #[.int .i64 P, .int .i64 N, .slice ko cn kc, .slice qo on qc], .int .i64 (at_.tmod 200)] wk fun e w' => IbOut (AtIs ⟨P, N, ko, cn, kc, qo, on, qc, cs, os⟩ (at_.tmod 200)) e ∧ Hid (Below wk.heap.size wk w'))).mono ?_)
      rintro e w5 ⟨⟨i5, b5, rfl, h5⟩, q⟩
      have H5 := Lib.hid h5
      have HBB := Lib.hid (HBB.out.keep q.out)
      have HGB := Lib.hid (HGB.out.keep q.out)
      clear q h5 e0 e1 e2 e3 g0 g1 g2 g3
      have e0 : w5.cell? ⟨b, 0, none⟩ = some (.int .i64 P) := HBB.out.c0
      have e1 : w5.cell? ⟨b, 1, none⟩ = some (.int .i64 N) := HBB.out.c1
      have e2 : w5.cell? ⟨b, 2, none⟩ = some (.slice co cn cc) := HBB.out.c2
      have e3 : w5.cell? ⟨b, 3, none⟩ = some (.slice oo on oc) := HBB.out.c3
      have g0 : w5.cell? ⟨bk, 0, none⟩ = some (.int .i64 P) := HGB.out.c0
      have g1 : w5.cell? ⟨bk, 1, none⟩ = some (.int .i64 N) := HGB.out.c1
      have g2 : w5.cell? ⟨bk, 2, none⟩ = some (.slice ko cn kc) := HGB.out.c2
      have g3 : w5.cell? ⟨bk, 3, none⟩ = some (.slice qo on qc) := HGB.out.c3
      go_wp2_with fail
      (with_reducible refine ((refAt_near ⟨P, N, co, cn, cc, oo, on, oc, cs, os⟩ (at_.tmod 200) w5 HBB.out.at_ HK.out.gn (fun ao n c l W h r hr => rhas_is ao n c l _ W h r hr) : Calls Tryz.prog 9 #[.agg #[.int .i64 P, .int .i64 N, .slice co cn cc, .slice oo on oc], .int .i64 (at_.tmod 200), .int .i64 (-6000), .int .i64 6000] w5 fun e w' => SawOut (SawAt ⟨P, N, co, cn, cc, oo, on, oc, cs, os⟩ (at_.tmod 200)) w5 e w')).mono ?_)
      rintro e w6 ⟨j5, d5, rfl, hs5, q⟩
      obtain ⟨rfl, rfl⟩ : i5 = j5 ∧ b5 = d5 := saw_at HK.out.nf HK.out.rt HK.out.ok HK.out.ln (by omega) (by omega) H5.out hs5.out
      have HBB := Lib.hid (HBB.out.keep q.out)
      have HGB := Lib.hid (HGB.out.keep q.out)
      clear q hs5 H5 e0 e1 e2 e3 g0 g1 g2 g3
      have e0 : w6.cell? ⟨b, 0, none⟩ = some (.int .i64 P) := HBB.out.c0
      have e1 : w6.cell? ⟨b, 1, none⟩ = some (.int .i64 N) := HBB.out.c1
      have e2 : w6.cell? ⟨b, 2, none⟩ = some (.slice co cn cc) := HBB.out.c2
      have e3 : w6.cell? ⟨b, 3, none⟩ = some (.slice oo on oc) := HBB.out.c3
      have g0 : w6.cell? ⟨bk, 0, none⟩ = some (.int .i64 P) := HGB.out.c0
      have g1 : w6.cell? ⟨bk, 1, none⟩ = some (.int .i64 N) := HGB.out.c1
      have g2 : w6.cell? ⟨bk, 2, none⟩ = some (.slice ko cn kc) := HGB.out.c2
      have g3 : w6.cell? ⟨bk, 3, none⟩ = some (.slice qo on qc) := HGB.out.c3
      go_wp2_with fail
      (with_reducible refine ((from_any ⟨P, N, ko, cn, kc, qo, on, qc, cs, os⟩ (at_.tmod 200) w6 HGB.out.at_ HRG.out.1 HRG.out.2 HK.out.cn (by omega) (by omega) : Calls Tryz.prog 10 #[.agg #[.int .i64 P, .int .i64 N, .slice ko cn kc, .slice qo on qc], .int .i64 (at_.tmod 200)] w6 fun e w' => IbOut (FromIs ⟨P, N, ko, cn, kc, qo, on, qc, cs, os⟩ (at_.tmod 200)) e ∧ Hid (Below w6.heap.size w6 w'))).mono ?_)
      rintro e w7 ⟨⟨i7, b7, rfl, h7⟩, q⟩
      have H7 := Lib.hid h7
      have HBB := Lib.hid (HBB.out.keep q.out)
      have HGB := Lib.hid (HGB.out.keep q.out)
      clear q h7 e0 e1 e2 e3 g0 g1 g2 g3
      have e0 : w7.cell? ⟨b, 0, none⟩ = some (.int .i64 P) := HBB.out.c0
      have e1 : w7.cell? ⟨b, 1, none⟩ = some (.int .i64 N) := HBB.out.c1
      have e2 : w7.cell? ⟨b, 2, none⟩ = some (.slice co cn cc) := HBB.out.c2
      have e3 : w7.cell? ⟨b, 3, none⟩ = some (.slice oo on oc) := HBB.out.c3
      have g0 : w7.cell? ⟨bk, 0, none⟩ = some (.int .i64 P) := HGB.out.c0
      have g1 : w7.cell? ⟨bk, 1, none⟩ = some (.int .i64 N) := HGB.out.c1
      have g2 : w7.cell? ⟨bk, 2, none⟩ = some (.slice ko cn kc) := HGB.out.c2
      have g3 : w7.cell? ⟨bk, 3, none⟩ = some (.slice qo on qc) := HGB.out.c3
      go_wp2_with fail
      (with_reducible refine ((refFrom_near ⟨P, N, co, cn, cc, oo, on, oc, cs, os⟩ (at_.tmod 200) w7 HBB.out.at_ HK.out.gn : Calls Tryz.prog 11 #[.agg #[.int .i64 P, .int .i64 N, .slice co cn cc, .slice oo on oc], .int .i64 (at_.tmod 200), .int .i64 (-6000), .int .i64 6000] w7 fun e w' => SawOut (SawFrom ⟨P, N, co, cn, cc, oo, on, oc, cs, os⟩ (at_.tmod 200)) w7 e w')).mono ?_)
      rintro e w8 ⟨j7, d7, rfl, hs7, q⟩
      obtain ⟨rfl, rfl⟩ : i7 = j7 ∧ b7 = d7 := saw_from HK.out.nf HK.out.ok (by omega) (by omega) H7.out hs7.out
      have HBB := Lib.hid (HBB.out.keep q.out)
      have HGB := Lib.hid (HGB.out.keep q.out)
      clear q hs7 H7 e0 e1 e2 e3 g0 g1 g2 g3
      have e0 : w8.cell? ⟨b, 0, none⟩ = some (.int .i64 P) := HBB.out.c0
      have e1 : w8.cell? ⟨b, 1, none⟩ = some (.int .i64 N) := HBB.out.c1
      have e2 : w8.cell? ⟨b, 2, none⟩ = some (.slice co cn cc) := HBB.out.c2
      have e3 : w8.cell? ⟨b, 3, none⟩ = some (.slice oo on oc) := HBB.out.c3
      have g0 : w8.cell? ⟨bk, 0, none⟩ = some (.int .i64 P) := HGB.out.c0
      have g1 : w8.cell? ⟨bk, 1, none⟩ = some (.int .i64 N) := HGB.out.c1
      have g2 : w8.cell? ⟨bk, 2, none⟩ = some (.slice ko cn kc) := HGB.out.c2
      have g3 : w8.cell? ⟨bk, 3, none⟩ = some (.slice qo on qc) := HGB.out.c3
      go_wp2_with fail
      (with_reducible refine ((till_any ⟨P, N, ko, cn, kc, qo, on, qc, cs, os⟩ (at_.tmod 200) w8 HGB.out.at_ HRG.out.1 HRG.out.2 HK.out.cn (by omega) (by omega) : Calls Tryz.prog 12 #[.agg #[.int .i64 P, .int .i64 N, .slice ko cn kc, .slice qo on qc], .int .i64 (at_.tmod 200)] w8 fun e w' => IbOut (TillIs ⟨P, N, ko, cn, kc, qo, on, qc, cs, os⟩ (at_.tmod 200)) e ∧ Hid (Below w8.heap.size w8 w'))).mono ?_)
      rintro e w9 ⟨⟨i9, b9, rfl, h9⟩, q⟩
      have H9 := Lib.hid h9
      have HBB := Lib.hid (HBB.out.keep q.out)
      have HGB := Lib.hid (HGB.out.keep q.out)
      clear q h9 e0 e1 e2 e3 g0 g1 g2 g3
      have e0 : w9.cell? ⟨b, 0, none⟩ = some (.int .i64 P) := HBB.out.c0
      have e1 : w9.cell? ⟨b, 1, none⟩ = some (.int .i64 N) := HBB.out.c1
      have e2 : w9.cell? ⟨b, 2, none⟩ = some (.slice co cn cc) := HBB.out.c2
      have e3 : w9.cell? ⟨b, 3, none⟩ = some (.slice oo on oc) := HBB.out.c3
      have g0 : w9.cell? ⟨bk, 0, none⟩ = some (.int .i64 P) := HGB.out.c0
      have g1 : w9.cell? ⟨bk, 1, none⟩ = some (.int .i64 N) := HGB.out.c1
      have g2 : w9.cell? ⟨bk, 2, none⟩ = some (.slice ko cn kc) := HGB.out.c2
      have g3 : w9.cell? ⟨bk, 3, none⟩ = some (.slice qo on qc) := HGB.out.c3
      go_wp2_with fail
      (with_reducible refine ((refTill_near ⟨P, N, co, cn, cc, oo, on, oc, cs, os⟩ (at_.tmod 200) w9 HBB.out.at_ HK.out.gn : Calls Tryz.prog 13 #[.agg #[.int .i64 P, .int .i64 N, .slice co cn cc, .slice oo on oc], .int .i64 (at_.tmod 200), .int .i64 (-6000), .int .i64 6000] w9 fun e w' => SawOut (SawTill ⟨P, N, co, cn, cc, oo, on, oc, cs, os⟩ (at_.tmod 200)) w9 e w')).mono ?_)
      rintro e w10 ⟨j9, d9, rfl, hs9, q⟩
      obtain ⟨rfl, rfl⟩ : i9 = j9 ∧ b9 = d9 := saw_till HK.out.nf HK.out.ok (by omega) (by omega) H9.out hs9.out
      have HBB := Lib.hid (HBB.out.keep q.out)
      have HGB := Lib.hid (HGB.out.keep q.out)
      clear q hs9 H9 e0 e1 e2 e3 g0 g1 g2 g3
      go_upto_region 18 with fail
      go_cut [15, 16] from 101 to 109 (fun s7 s8 wx => Mk7 ⟨P, N, co, cn, cc, oo, on, oc, cs, os⟩ w b ⟨P, N, ko, cn, kc, qo, on, qc, cs, os⟩ w4 bk s7 s8 wx)
      case first =>
        by_cases h8 : ln ≤ 8
        · have t1 : min (ln : Int) 8 = (ln : Int) := by omega
          have t2 : ¬ (8 : Int) < (ln : Int) := by omega
          have h0 : (0 : Int) ≤ (ln : Int) := by omega
          have h2 : (ln : Int) ≤ (lc : Int) := by omega
          cases lo with
          | none =>
            obtain ⟨rfl, rfl⟩ := HLS.out.bare rfl
            have t3 : min (0 : Int) 8 = 0 := by omega
            have CM := Lib.hid (HMK.out none 0 0 l _ (HLS.out.keep HBB.out.bw) (by omega))
            go_wp2_with (go_at_call 14; with_reducible refine CM.out.mono ?_; rintro e w1 ⟨ao, n1, c1, r1, k1, rfl, hm, q⟩)
            go_meet
            case rel => exact ⟨ao, n1, c1, r1, k1, rfl, rfl, hm, Lib.hid ⟨HBB.out.keep q.out, HGB.out.keep q.out⟩⟩
          | some a =>
            have CM := Lib.hid (HMK.out (some a) ln lc l _ (HLS.out.keep HBB.out.bw) (by omega))
            go_wp2_with (go_at_call 14; with_reducible refine CM.out.mono ?_; rintro e w1 ⟨ao, n1, c1, r1, k1, rfl, hm, q⟩)
            go_meet
            case rel => exact ⟨ao, n1, c1, r1, k1, rfl, rfl, hm, Lib.hid ⟨HBB.out.keep q.out, HGB.out.keep q.out⟩⟩
        · have t1 : min (ln : Int) 8 = 8 := by omega
          have t2 : (8 : Int) < (ln : Int) := by omega
          have h2 : (8 : Int) ≤ (lc : Int) := by omega
          obtain ⟨b', p', rfl, _⟩ := HLS.out.here (by omega)
          have CM := Lib.hid (HMK.out (some ⟨b', p', none⟩) 8 lc (l.take 8) _ ((HLS.out.keep HBB.out.bw).take 8 (by omega)) (by omega))
          go_wp2_with (go_at_call 14; with_reducible refine CM.out.mono ?_; rintro e w1 ⟨ao, n1, c1, r1, k1, rfl, hm, q⟩)
          go_meet
          case rel => exact ⟨ao, n1, c1, r1, k1, rfl, rfl, hm, Lib.hid ⟨HBB.out.keep q.out, HGB.out.keep q.out⟩⟩
      case rest =>
        obtain ⟨a1, n1, c1, A, k1, rfl, rfl, HA, HBG⟩ := hcut
        have HBB := Lib.hid HBG.out.1
        have HGB := Lib.hid HBG.out.2
        clear HBG HLS HMK
        obtain ⟨x, hx⟩ : ∃ x, hullA A = x := ⟨_, rfl⟩
        obtain ⟨y, hy⟩ : ∃ y, hullB A = y := ⟨_, rfl⟩
        have CH := hull_any a1 n1 c1 A wc HA.out.2.2
        obtain ⟨sb, hsb⟩ : ∃ s, decide (0 < n1) = s := ⟨_, rfl⟩
        rw [hx, hy, hsb] at CH
        have HSB : Hid (sb = true ↔ 0 < n1) := Lib.hid (by rw [← hsb]; simp)
        clear hsb
        have CH := Lib.hid CH
        have HXY := Lib.hid (⟨hx, hy⟩ : _ ∧ _)
        clear hx hy
        go_wp2_with fail
        (with_reducible refine CH.out.mono ?_)
        rintro e w12 ⟨rfl, q⟩
        have HBB := Lib.hid (HBB.out.keep q)
        have HGB := Lib.hid (HGB.out.keep q)
        have HA := Lib.hid (⟨HA.out.1, HA.out.2.1, HA.out.2.2.keep q⟩ : Good A ∧ n1 ≤ 8 ∧ _)
        clear q CH
        obtain ⟨b5, hb5⟩ : ∃ s, w12.heap.size = s := ⟨_, rfl⟩
        obtain ⟨w13, hw13⟩ : ∃ W, w12.alloc (.cells #[.int .i64 x, .int .i64 y] 38) = W := ⟨_, rfl⟩
        have K5 : Below w12.heap.size w12 w13 := by rw [← hw13]; exact (Below.refl _ _).alloc (Nat.le_refl _) _
        have f0 : w13.cell? ⟨b5, 0, none⟩ = some (.int .i64 x) := by rw [← hw13, ← hb5]; exact (box_cells w12 _ _ 38).1
        have f1 : w13.cell? ⟨b5, 1, none⟩ = some (.int .i64 y) := by rw [← hw13, ← hb5]; exact (box_cells w12 _ _ 38).2
        have HBB := Lib.hid (HBB.out.keep K5)
        have HGB := Lib.hid (HGB.out.keep K5)
        have HA := Lib.hid (⟨HA.out.1, HA.out.2.1, HA.out.2.2.keep K5⟩ : Good A ∧ n1 ≤ 8 ∧ _)
        clear K5
        by_cases z1 : k1 = 0
        rotate_left 1
        · have z6 : (k1 != 0) = true := by simp; exact z1
          go_wp2_with fail
          (with_reducible refine (HAW.out _).mono ?_)
          rintro e wz ⟨rfl, q⟩
          have HBB := Lib.hid (HBB.out.keep q)
          clear q
          go_wp2
          go_returns
          exact ⟨rfl, HBB.out.bw⟩
        subst z1
        have HGO : (∀ (hxy : -300 ≤ x ∧ y ≤ 300), True) := fun _ => trivial
        clear HGO
        cases sb
        · have hkx : -300 ≤ hullA A ∧ hullB A ≤ 300 := by
            obtain rfl : A = [] := spat_none HA.out.2.2 (fun z => by have := HSB.out.2 z; cases this)
            exact ⟨(show (-300 : Int) ≤ 0 by decide), (show (0 : Int) ≤ 300 by decide)⟩
          have HKX := Lib.hid (hkx : -300 ≤ hullA A ∧ hullB A ≤ 300)
          clear hkx
          have e0 : w13.cell? ⟨b, 0, none⟩ = some (.int .i64 P) := HBB.out.c0
          have e1 : w13.cell? ⟨b, 1, none⟩ = some (.int .i64 N) := HBB.out.c1
          have e2 : w13.cell? ⟨b, 2, none⟩ = some (.slice co cn cc) := HBB.out.c2
          have e3 : w13.cell? ⟨b, 3, none⟩ = some (.slice oo on oc) := HBB.out.c3
          have g0 : w13.cell? ⟨bk, 0, none⟩ = some (.int .i64 P) := HGB.out.c0
          have g1 : w13.cell? ⟨bk, 1, none⟩ = some (.int .i64 N) := HGB.out.c1
          have g2 : w13.cell? ⟨bk, 2, none⟩ = some (.slice ko cn kc) := HGB.out.c2
          have g3 : w13.cell? ⟨bk, 3, none⟩ = some (.slice qo on qc) := HGB.out.c3
          go_wp2_with fail
          (with_reducible refine ((over_any ⟨P, N, ko, cn, kc, qo, on, qc, cs, os⟩ a1 n1 c1 A w13 HGB.out.at_ HRG.out.1 HRG.out.2 HK.out.cn HA.out.2.2 (Nat.le_trans HA.out.2.1 (by decide)) : Calls Tryz.prog 16 #[.agg #[.int .i64 P, .int .i64 N, .slice ko cn kc, .slice qo on qc], .slice a1 n1 c1] w13 fun e w' => OverOut ⟨P, N, ko, cn, kc, qo, on, qc, cs, os⟩ A w13.heap.size e w' ∧ Hid (Below w13.heap.size w13 w'))).mono ?_)
          rintro e w14 ⟨⟨v14, xs, k14, rfl, ho, hw⟩, q⟩
          obtain rfl : k14 = 0 := over_k0 HK.out.nf HK.out.ok HA.out.1 HKX.out.1 HKX.out.2 ho
          have HO := Lib.hid ho
          clear ho
          obtain ⟨xo, xc, rfl, hxz⟩ := own_iz hw
          have HX1 := Lib.hid hxz
          clear hw hxz
          have HBB := Lib.hid (HBB.out.keep q.out)
          have HGB := Lib.hid (HGB.out.keep q.out)
          have HA := Lib.hid (⟨HA.out.1, HA.out.2.1, HA.out.2.2.keep q.out⟩ : Good A ∧ n1 ≤ 8 ∧ _)
          clear q e0 e1 e2 e3 g0 g1 g2 g3
          have e0 : w14.cell? ⟨b, 0, none⟩ = some (.int .i64 P) := HBB.out.c0
          have e1 : w14.cell? ⟨b, 1, none⟩ = some (.int .i64 N) := HBB.out.c1
          have e2 : w14.cell? ⟨b, 2, none⟩ = some (.slice co cn cc) := HBB.out.c2
          have e3 : w14.cell? ⟨b, 3, none⟩ = some (.slice oo on oc) := HBB.out.c3
          have g0 : w14.cell? ⟨bk, 0, none⟩ = some (.int .i64 P) := HGB.out.c0
          have g1 : w14.cell? ⟨bk, 1, none⟩ = some (.int .i64 N) := HGB.out.c1
          have g2 : w14.cell? ⟨bk, 2, none⟩ = some (.slice ko cn kc) := HGB.out.c2
          have g3 : w14.cell? ⟨bk, 3, none⟩ = some (.slice qo on qc) := HGB.out.c3
          go_wp2_with fail
          (with_reducible refine ((refOver_near ⟨P, N, co, cn, cc, oo, on, oc, cs, os⟩ a1 n1 c1 A w14 HBB.out.at_ HK.out.gn HK.out.sh HA.out.2.2 (Nat.le_trans HA.out.2.1 (by decide)) (spans_good HA.out.1) : Calls Tryz.prog 18 #[.agg #[.int .i64 P, .int .i64 N, .slice co cn cc, .slice oo on oc], .slice a1 n1 c1, .int .i64 (-6000), .int .i64 6000] w14 fun e w' => ListOut (SawOver ⟨P, N, co, cn, cc, oo, on, oc, cs, os⟩ A) w14 e w')).mono ?_)
          rintro e w15 ⟨v15, zs, rfl, hz, hs, q⟩
          obtain ⟨_, rfl⟩ := saw_over HK.out.nf HK.out.ok HA.out.1 HKX.out.1 HKX.out.2 HO.out hs.out
          obtain ⟨yo, yc, rfl, hyz⟩ := own_iz (show w15.ownsRow w14.heap.size 3 1 v15 xs.length (ints xs) from hz.out)
          have HX1 := Lib.hid (HX1.out.keep q.out)
          have HX2 := Lib.hid hyz
          clear hz hs hyz HO
          have HBB := Lib.hid (HBB.out.keep q.out)
          have HGB := Lib.hid (HGB.out.keep q.out)
          have HA := Lib.hid (⟨HA.out.1, HA.out.2.1, HA.out.2.2.keep q.out⟩ : Good A ∧ n1 ≤ 8 ∧ _)
          clear q e0 e1 e2 e3 g0 g1 g2 g3
          have e0 : w15.cell? ⟨b, 0, none⟩ = some (.int .i64 P) := HBB.out.c0
          have e1 : w15.cell? ⟨b, 1, none⟩ = some (.int .i64 N) := HBB.out.c1
          have e2 : w15.cell? ⟨b, 2, none⟩ = some (.slice co cn cc) := HBB.out.c2
          have e3 : w15.cell? ⟨b, 3, none⟩ = some (.slice oo on oc) := HBB.out.c3
          have g0 : w15.cell? ⟨bk, 0, none⟩ = some (.int .i64 P) := HGB.out.c0
          have g1 : w15.cell? ⟨bk, 1, none⟩ = some (.int .i64 N) := HGB.out.c1
          have g2 : w15.cell? ⟨bk, 2, none⟩ = some (.slice ko cn kc) := HGB.out.c2
          have g3 : w15.cell? ⟨bk, 3, none⟩ = some (.slice qo on qc) := HGB.out.c3
          go_wp2_with fail
          (with_reducible refine (ints_any _ _ _ _ _ _ xs xs w15 HX1.out HX2.out true ⟨fun _ => rfl, fun _ => rfl⟩).mono ?_)
          rintro e w16 ⟨rfl, q⟩
          have HBB := Lib.hid (HBB.out.keep q)
          have HGB := Lib.hid (HGB.out.keep q)
          have HA := Lib.hid (⟨HA.out.1, HA.out.2.1, HA.out.2.2.keep q⟩ : Good A ∧ n1 ≤ 8 ∧ _)
          clear q e0 e1 e2 e3 g0 g1 g2 g3 HX1 HX2
          have e0 : w16.cell? ⟨b, 0, none⟩ = some (.int .i64 P) := HBB.out.c0
          have e1 : w16.cell? ⟨b, 1, none⟩ = some (.int .i64 N) := HBB.out.c1
          have e2 : w16.cell? ⟨b, 2, none⟩ = some (.slice co cn cc) := HBB.out.c2
          have e3 : w16.cell? ⟨b, 3, none⟩ = some (.slice oo on oc) := HBB.out.c3
          have g0 : w16.cell? ⟨bk, 0, none⟩ = some (.int .i64 P) := HGB.out.c0
          have g1 : w16.cell? ⟨bk, 1, none⟩ = some (.int .i64 N) := HGB.out.c1
          have g2 : w16.cell? ⟨bk, 2, none⟩ = some (.slice ko cn kc) := HGB.out.c2
          have g3 : w16.cell? ⟨bk, 3, none⟩ = some (.slice qo on qc) := HGB.out.c3
          go_wp2_with fail
          (with_reducible refine ((alikeForms_any ⟨P, N, co, cn, cc, oo, on, oc, cs, os⟩ ⟨P, N, ko, cn, kc, qo, on, qc, cs, os⟩ w16 HBB.out.at_ HGB.out.at_ true ⟨fun _ => sameF_own, fun _ => rfl⟩ : Calls Tryz.prog 19 #[.agg #[.int .i64 P, .int .i64 N, .slice co cn cc, .slice oo on oc], .agg #[.int .i64 P, .int .i64 N, .slice ko cn kc, .slice qo on qc]] w16 fun e w' => e = .returned (.bool true) ∧ Below w16.heap.size w16 w')).mono ?_)
          rintro e w17 ⟨rfl, q⟩
          have HBB := Lib.hid (HBB.out.keep q)
          have HGB := Lib.hid (HGB.out.keep q)
          have HA := Lib.hid (⟨HA.out.1, HA.out.2.1, HA.out.2.2.keep q⟩ : Good A ∧ n1 ≤ 8 ∧ _)
          clear q e0 e1 e2 e3 g0 g1 g2 g3
          go_wp2_with fail
          (with_reducible refine (HAW.out _).mono ?_)
          rintro e wz ⟨rfl, q⟩
          have HBB := Lib.hid (HBB.out.keep q)
          clear q
          go_wp2
          go_returns
          exact ⟨rfl, HBB.out.bw⟩
        · by_cases z4 : x < -300
          · skip
            go_wp2_with fail
            (with_reducible refine (HAW.out _).mono ?_)
            rintro e wz ⟨rfl, q⟩
            have HBB := Lib.hid (HBB.out.keep q)
            clear q
            go_wp2
            go_returns
            exact ⟨rfl, HBB.out.bw⟩
          · by_cases z5 : 300 < y
            · skip
              go_wp2_with fail
              (with_reducible refine (HAW.out _).mono ?_)
              rintro e wz ⟨rfl, q⟩
              have HBB := Lib.hid (HBB.out.keep q)
              clear q
              go_wp2
              go_returns
              exact ⟨rfl, HBB.out.bw⟩
            · have hkx : -300 ≤ hullA A ∧ hullB A ≤ 300 := by
                obtain ⟨e3, e4⟩ := HXY.out
                exact ⟨by omega, by omega⟩
              have z6 : decide (x < -300) = false := by simp; omega
              have z7 : decide (300 < y) = false := by simp; omega
              have HKX := Lib.hid (hkx : -300 ≤ hullA A ∧ hullB A ≤ 300)
              clear hkx
              have e0 : w13.cell? ⟨b, 0, none⟩ = some (.int .i64 P) := HBB.out.c0
              have e1 : w13.cell? ⟨b, 1, none⟩ = some (.int .i64 N) := HBB.out.c1
              have e2 : w13.cell? ⟨b, 2, none⟩ = some (.slice co cn cc) := HBB.out.c2
              have e3 : w13.cell? ⟨b, 3, none⟩ = some (.slice oo on oc) := HBB.out.c3
              have g0 : w13.cell? ⟨bk, 0, none⟩ = some (.int .i64 P) := HGB.out.c0
              have g1 : w13.cell? ⟨bk, 1, none⟩ = some (.int .i64 N) := HGB.out.c1
              have g2 : w13.cell? ⟨bk, 2, none⟩ = some (.slice ko cn kc) := HGB.out.c2
              have g3 : w13.cell? ⟨bk, 3, none⟩ = some (.slice qo on qc) := HGB.out.c3
              go_wp2_with fail
              (with_reducible refine ((over_any ⟨P, N, ko, cn, kc, qo, on, qc, cs, os⟩ a1 n1 c1 A w13 HGB.out.at_ HRG.out.1 HRG.out.2 HK.out.cn HA.out.2.2 (Nat.le_trans HA.out.2.1 (by decide)) : Calls Tryz.prog 16 #[.agg #[.int .i64 P, .int .i64 N, .slice ko cn kc, .slice qo on qc], .slice a1 n1 c1] w13 fun e w' => OverOut ⟨P, N, ko, cn, kc, qo, on, qc, cs, os⟩ A w13.heap.size e w' ∧ Hid (Below w13.heap.size w13 w'))).mono ?_)
              rintro e w14 ⟨⟨v14, xs, k14, rfl, ho, hw⟩, q⟩
              obtain rfl : k14 = 0 := over_k0 HK.out.nf HK.out.ok HA.out.1 HKX.out.1 HKX.out.2 ho
              have HO := Lib.hid ho
              clear ho
              obtain ⟨xo, xc, rfl, hxz⟩ := own_iz hw
              have HX1 := Lib.hid hxz
              clear hw hxz
              have HBB := Lib.hid (HBB.out.keep q.out)
              have HGB := Lib.hid (HGB.out.keep q.out)
              have HA := Lib.hid (⟨HA.out.1, HA.out.2.1, HA.out.2.2.keep q.out⟩ : Good A ∧ n1 ≤ 8 ∧ _)
              clear q e0 e1 e2 e3 g0 g1 g2 g3
              have e0 : w14.cell? ⟨b, 0, none⟩ = some (.int .i64 P) := HBB.out.c0
              have e1 : w14.cell? ⟨b, 1, none⟩ = some (.int .i64 N) := HBB.out.c1
              have e2 : w14.cell? ⟨b, 2, none⟩ = some (.slice co cn cc) := HBB.out.c2
              have e3 : w14.cell? ⟨b, 3, none⟩ = some (.slice oo on oc) := HBB.out.c3
              have g0 : w14.cell? ⟨bk, 0, none⟩ = some (.int .i64 P) := HGB.out.c0
              have g1 : w14.cell? ⟨bk, 1, none⟩ = some (.int .i64 N) := HGB.out.c1
              have g2 : w14.cell? ⟨bk, 2, none⟩ = some (.slice ko cn kc) := HGB.out.c2
              have g3 : w14.cell? ⟨bk, 3, none⟩ = some (.slice qo on qc) := HGB.out.c3
              go_wp2_with fail
              (with_reducible refine ((refOver_near ⟨P, N, co, cn, cc, oo, on, oc, cs, os⟩ a1 n1 c1 A w14 HBB.out.at_ HK.out.gn HK.out.sh HA.out.2.2 (Nat.le_trans HA.out.2.1 (by decide)) (spans_good HA.out.1) : Calls Tryz.prog 18 #[.agg #[.int .i64 P, .int .i64 N, .slice co cn cc, .slice oo on oc], .slice a1 n1 c1, .int .i64 (-6000), .int .i64 6000] w14 fun e w' => ListOut (SawOver ⟨P, N, co, cn, cc, oo, on, oc, cs, os⟩ A) w14 e w')).mono ?_)
              rintro e w15 ⟨v15, zs, rfl, hz, hs, q⟩
              obtain ⟨_, rfl⟩ := saw_over HK.out.nf HK.out.ok HA.out.1 HKX.out.1 HKX.out.2 HO.out hs.out
              obtain ⟨yo, yc, rfl, hyz⟩ := own_iz (show w15.ownsRow w14.heap.size 3 1 v15 xs.length (ints xs) from hz.out)
              have HX1 := Lib.hid (HX1.out.keep q.out)
              have HX2 := Lib.hid hyz
              clear hz hs hyz HO
              have HBB := Lib.hid (HBB.out.keep q.out)
              have HGB := Lib.hid (HGB.out.keep q.out)
              have HA := Lib.hid (⟨HA.out.1, HA.out.2.1, HA.out.2.2.keep q.out⟩ : Good A ∧ n1 ≤ 8 ∧ _)
              clear q e0 e1 e2 e3 g0 g1 g2 g3
              have e0 : w15.cell? ⟨b, 0, none⟩ = some (.int .i64 P) := HBB.out.c0
              have e1 : w15.cell? ⟨b, 1, none⟩ = some (.int .i64 N) := HBB.out.c1
              have e2 : w15.cell? ⟨b, 2, none⟩ = some (.slice co cn cc) := HBB.out.c2
              have e3 : w15.cell? ⟨b, 3, none⟩ = some (.slice oo on oc) := HBB.out.c3
              have g0 : w15.cell? ⟨bk, 0, none⟩ = some (.int .i64 P) := HGB.out.c0
              have g1 : w15.cell? ⟨bk, 1, none⟩ = some (.int .i64 N) := HGB.out.c1
              have g2 : w15.cell? ⟨bk, 2, none⟩ = some (.slice ko cn kc) := HGB.out.c2
              have g3 : w15.cell? ⟨bk, 3, none⟩ = some (.slice qo on qc) := HGB.out.c3
              go_wp2_with fail
              (with_reducible refine (ints_any _ _ _ _ _ _ xs xs w15 HX1.out HX2.out true ⟨fun _ => rfl, fun _ => rfl⟩).mono ?_)
              rintro e w16 ⟨rfl, q⟩
              have HBB := Lib.hid (HBB.out.keep q)
              have HGB := Lib.hid (HGB.out.keep q)
              have HA := Lib.hid (⟨HA.out.1, HA.out.2.1, HA.out.2.2.keep q⟩ : Good A ∧ n1 ≤ 8 ∧ _)
              clear q e0 e1 e2 e3 g0 g1 g2 g3 HX1 HX2
              have e0 : w16.cell? ⟨b, 0, none⟩ = some (.int .i64 P) := HBB.out.c0
              have e1 : w16.cell? ⟨b, 1, none⟩ = some (.int .i64 N) := HBB.out.c1
              have e2 : w16.cell? ⟨b, 2, none⟩ = some (.slice co cn cc) := HBB.out.c2
              have e3 : w16.cell? ⟨b, 3, none⟩ = some (.slice oo on oc) := HBB.out.c3
              have g0 : w16.cell? ⟨bk, 0, none⟩ = some (.int .i64 P) := HGB.out.c0
              have g1 : w16.cell? ⟨bk, 1, none⟩ = some (.int .i64 N) := HGB.out.c1
              have g2 : w16.cell? ⟨bk, 2, none⟩ = some (.slice ko cn kc) := HGB.out.c2
              have g3 : w16.cell? ⟨bk, 3, none⟩ = some (.slice qo on qc) := HGB.out.c3
              go_wp2_with fail
              (with_reducible refine ((alikeForms_any ⟨P, N, co, cn, cc, oo, on, oc, cs, os⟩ ⟨P, N, ko, cn, kc, qo, on, qc, cs, os⟩ w16 HBB.out.at_ HGB.out.at_ true ⟨fun _ => sameF_own, fun _ => rfl⟩ : Calls Tryz.prog 19 #[.agg #[.int .i64 P, .int .i64 N, .slice co cn cc, .slice oo on oc], .agg #[.int .i64 P, .int .i64 N, .slice ko cn kc, .slice qo on qc]] w16 fun e w' => e = .returned (.bool true) ∧ Below w16.heap.size w16 w')).mono ?_)
              rintro e w17 ⟨rfl, q⟩
              have HBB := Lib.hid (HBB.out.keep q)
              have HGB := Lib.hid (HGB.out.keep q)
              have HA := Lib.hid (⟨HA.out.1, HA.out.2.1, HA.out.2.2.keep q⟩ : Good A ∧ n1 ≤ 8 ∧ _)
              clear q e0 e1 e2 e3 g0 g1 g2 g3
              go_wp2_with fail
              (with_reducible refine (HAW.out _).mono ?_)
              rintro e wz ⟨rfl, q⟩
              have HBB := Lib.hid (HBB.out.keep q)
              clear q
              go_wp2
              go_returns
              exact ⟨rfl, HBB.out.bw⟩
theorem known7 {F : Fv} (hl : F.cs.length = F.cn) (sm : F.Small) (rt : F.Rt) (nb : NearB F) : Known7 F := by
  have ok := rt.ok sm
  have nf : NearF F := ⟨nb.1, nb.2.1, nb.2.2, sm.1⟩
  have sz : lens F.cs + lens (tks F.os) ≤ 60 := sm.2.2
  refine ⟨rt, ok, Nat.le_trans sm.1 (by decide), nf, hl, gets_near ok nf, fun i si => ⟨?_, spans_good (gr_good ok (near_seen nf ok si))⟩, Nat.le_trans sm.2.1 (by decide)⟩
  unfold gr
  cases e : exc F.os i with
  | some l =>
    obtain ⟨n, hn, a, b⟩ := exc_some e
    have q : l ∈ tks F.os := by rw [← b]; unfold tks; exact List.mem_map.2 ⟨_, List.getElem_mem hn, rfl⟩
    have := le_lens q
    show l.length ≤ 5000
    omega
  | none =>
    show (cg F.cs F.P F.N i).length ≤ 5000
    by_cases ne : cg F.cs F.P F.N i = []
    · rw [ne]; exact Nat.zero_le _
    · obtain ⟨q, l, _, _, _, hm, _, _, e, _⟩ := near_cg nf ok ne
      have := le_lens hm
      rw [e, show (moved l (F.P * q)).length = l.length by unfold moved; simp]
      omega
theorem tells_walk (F : Fv) (at_ : Int) (lo : Option Addr) (ln lc : Nat) (l : List Sp) (w : World) (hF : F.At w) (hL : SpAt w lo ln lc l) (a1 : -32768 ≤ at_) (a2 : at_ ≤ 32767) :
    Calls Tryz.prog 3 #[F.v, .int .i16 at_, .slice lo ln lc] w fun e w' => e = .returned (.bool true) ∧ Below w.heap.size w w' :=
  tells_any F at_ lo ln lc l w hF hL a1 a2 (fun sm rt nb => known7 hF.core.len sm rt nb)
end Go.Proofs.YtjhbgedobkpdhaaGreat
