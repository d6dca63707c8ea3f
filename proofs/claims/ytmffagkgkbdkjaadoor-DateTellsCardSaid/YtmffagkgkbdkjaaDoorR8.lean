/- What the document's own Texts answers of any day: a list of texts, just those that say it. -/
import Derived.Test.YtmffagkgkbdkjaaDoorR7
import Derived.Test.YtmffagkgkbdkjaaDoorR7a
import Derived.Test.YtmffagkgkbdkjaaDoorR7b
import Derived.Test.YtmffagkgkbdkjaaDoorR7c
namespace Go.Proofs.YtmffagkgkbdkjaaDoor
set_option linter.unusedVariables false
set_option linter.unusedSimpArgs false
open Go.ChangeShapes Go.WideShapes Go.ChangeAt Go.RowKit
open Cal (dg)

/-- Texts of a day: what the call answers, and which texts these are. -/
structure TextsIs (n : Int) (L : List ByteArray) : Prop where
  call : ∀ w, Calls Tryd.prog 20 #[.int .i64 n] w fun e w' => ∃ v, e = .returned v ∧ w'.ownsRow w.heap.size 9 1 v L.length (L.map Value.string) ∧ Below w.heap.size w w'
  says : ∀ x : ByteArray, x ∈ L ↔ readOf x.data.toList = some n

theorem readOf_pre {y : Int} (h1 : -9999 ≤ y) (h2 : y ≤ 9999) (t : List UInt8) : readOf (pre y ++ t) = tailOf y t := by
  unfold pre
  by_cases c : 0 ≤ y
  · rw [if_pos c]
    have h := readOf_pos (y := y.toNat) (by omega) t
    rw [show ((y.toNat : Nat) : Int) = y by omega] at h
    exact h
  · rw [if_neg c]
    have h := readOf_neg (y := (-y).toNat) (by omega) (by omega) t
    rw [show -(((-y).toNat : Nat) : Int) = y by omega] at h
    exact h

theorem ba_list (x : ByteArray) (l : List UInt8) (h : x.data.toList = l) : x = ⟨l.toArray⟩ := by
  subst h
  simp

theorem t0_is (y : Int) (m d : Nat) (hm : m < 100) (hd : d < 100) : (ByteArray.mk (pre y).toArray ++ ⟨#[45]⟩ ++ ⟨#[dg (m / 10 % 10), dg (m % 10)]⟩ ++ ⟨#[45]⟩ ++ ⟨#[dg (d / 10 % 10), dg (d % 10)]⟩) = ⟨(pre y ++ mdl m d).toArray⟩ := by
  rw [show m / 10 % 10 = m / 10 by omega, show d / 10 % 10 = d / 10 by omega]
  apply ba_list
  simp [ByteArray.data_append, mdl]
theorem t1_is (y : Int) (k : Nat) (hk : k < 1000) : (ByteArray.mk (pre y).toArray ++ ⟨#[45]⟩ ++ ⟨#[dg (k / 100 % 10), dg (k / 10 % 10), dg (k % 10)]⟩) = ⟨(pre y ++ ndl k).toArray⟩ := by
  rw [show k / 100 % 10 = k / 100 by omega]
  apply ba_list
  simp [ByteArray.data_append, ndl]
theorem t2_is (y : Int) (u e : Nat) (hu : u < 100) (he : e < 10) : (ByteArray.mk (pre y).toArray ++ ⟨#[45, 87]⟩ ++ ⟨#[dg (u / 10 % 10), dg (u % 10)]⟩ ++ ⟨#[45]⟩ ++ ⟨#[dg (e % 10)]⟩) = ⟨(pre y ++ wdl u e).toArray⟩ := by
  rw [show u / 10 % 10 = u / 10 by omega, show e % 10 = e by omega]
  apply ba_list
  simp [ByteArray.data_append, wdl]
theorem pre_size (y : Int) : (0 ≤ y ∧ (ByteArray.mk (pre y).toArray).size = 4) ∨ (y < 0 ∧ (ByteArray.mk (pre y).toArray).size = 5) := by
  have h := pre_len y
  simpa [ByteArray.size] using h

/-- The day of a year and a place in it; of a year and a month and a day: told apart by nothing else. -/
theorem same_year {n y Y : Int} (hy : Cal.start y ≤ n ∧ n < Cal.start (y + 1)) (hY : Cal.start Y ≤ n ∧ n < Cal.start (Y + 1)) : Y = y := by
  rcases (show Y = y ∨ Y + 1 ≤ y ∨ y + 1 ≤ Y by omega) with q | q | q
  · exact q
  · have := Cal.start_mono (Y + 1) y q; omega
  · have := Cal.start_mono (y + 1) Y q; omega
theorem same_week {n y Y : Int} (y1 : -9999 ≤ y) (y2 : y ≤ 9999) (Y1 : -9999 ≤ Y) (Y2 : Y ≤ 9999) (hy : Cal.op y ≤ n ∧ n < Cal.op (y + 1)) (hY : Cal.op Y ≤ n ∧ n < Cal.op (Y + 1)) : Y = y := by
  rcases (show Y = y ∨ Y + 1 ≤ y ∨ y + 1 ≤ Y by omega) with q | q | q
  · exact q
  · have := op_up (Y + 1) y (by omega) q (by omega); omega
  · have := op_up (y + 1) Y (by omega) q (by omega); omega

theorem nth_place {y k n : Int} (h : onNth y k = some n) : Cal.start y ≤ n ∧ n < Cal.start (y + 1) ∧ k = n - Cal.start y + 1 := by
  obtain ⟨a1, a2, k1, k2, e⟩ := onNth_some h
  have ss := Cal.start_succ y
  omega
theorem week_place {y k d n : Int} (h : onWeek y k d = some n) : -9999 ≤ y ∧ y ≤ 9999 ∧ Cal.op y ≤ n ∧ n < Cal.op (y + 1) ∧ k = (n - Cal.op y) / 7 + 1 ∧ d = Cal.wd n := by
  obtain ⟨k1, k2, d1, d2, n1, n2, e⟩ := onWeek_some h
  have c := Cal.weeks_cov y (by omega)
  have on := Cal.op_next y c.1 c.2
  have ow := Cal.op_wd y n
  refine ⟨c.1, c.2, by omega, by omega, by omega, by omega⟩

theorem says_two {y : Int} {m d k : Nat} (v : Cal.Valid y m d) (hm : m < 100) (hd : d < 100) (hk : k < 1000) (ek : (k : Int) = Cal.num y m d - Cal.start y + 1) {x : ByteArray}
    (h : readOf x.data.toList = some (Cal.num y m d)) : x = ⟨(pre y ++ mdl m d).toArray⟩ ∨ x = ⟨(pre y ++ ndl k).toArray⟩ ∨
      (∃ (Y : Int) (u e : Nat), u < 100 ∧ e < 10 ∧ -9999 ≤ Y ∧ Y ≤ 9999 ∧ x = ⟨(pre Y ++ wdl u e).toArray⟩ ∧ onWeek Y u e = some (Cal.num y m d)) := by
  obtain ⟨Y, t, y1, y2, hx, ht⟩ := read_inv h
  rcases tail_inv ht with ⟨m', d', hm', hd', rfl, e⟩ | ⟨k', hk', rfl, e⟩ | ⟨k', w, hk', hw, rfl, e⟩
  · obtain ⟨v', e'⟩ := onDate_some e
    obtain ⟨rfl, em, ed⟩ := Cal.num_inj v' v e'
    left
    rw [ba_list x _ hx, show m' = m by omega, show d' = d by omega]
  · have p := nth_place e
    have wi := v.within
    have := same_year ⟨wi.1, wi.2.1⟩ ⟨p.1, p.2.1⟩
    subst this
    right; left
    rw [ba_list x _ hx, show k' = k by omega]
  · right; right
    exact ⟨Y, k', w, hk', hw, y1, y2, ba_list x _ hx, e⟩

theorem says_zero {n : Int} (h : ¬ (-4371587 ≤ n ∧ n < 2932897)) (x : List UInt8) : readOf x ≠ some n := by
  intro hr
  obtain ⟨Y, t, y1, y2, hx, ht⟩ := read_inv hr
  apply h
  rcases tail_inv ht with ⟨m', d', hm', hd', rfl, e⟩ | ⟨k', hk', rfl, e⟩ | ⟨k', w, hk', hw, rfl, e⟩
  · obtain ⟨v', e'⟩ := onDate_some e
    have := v'.range
    rw [e'] at this
    exact this
  · have p := nth_place e
    have a := onNth_some e
    have b1 := Cal.start_bd Y y1 (by omega)
    have b2 := Cal.start_bd (Y + 1) (by omega) (by omega)
    omega
  · have p := onWeek_some e
    exact ⟨p.2.2.2.2.1, p.2.2.2.2.2.1⟩

theorem texts_none (n : Int) (h : ¬ (-4371587 ≤ n ∧ n < 2932897)) : TextsIs n [] := by
  refine ⟨fun w => ?_, fun x => ⟨(fun hx => by cases hx), fun hx => absurd hx (says_zero h _)⟩⟩
  have D := Lib.hid (fun w => rdate_err n w h)
  clear h
  go_enter Tryd.func20, Tryd.ntmps20
  go_wp2_with (go_at_call 30; (with_reducible refine (D.out _).mono ?_); rintro e w' ⟨rfl, rfl⟩)
  go_returns
  exact ⟨_, rfl, World.ownsRow_nil _ _ _ _, Below.refl _ _⟩

theorem texts_some (y : Int) (m d : Nat) (v : Cal.Valid y m d) (hm : m < 100) (hd : d < 100) : ∃ r, TextsIs (Cal.num y m d) (⟨(txt y m d).toArray⟩ :: r) := by
  have y1 := v.y1
  have y2 := v.y2
  have wi := v.within
  have ss := Cal.start_succ y
  have lp := Cal.lp_01 y
  obtain ⟨k, ek⟩ := Int.eq_ofNat_of_zero_le (show 0 ≤ Cal.num y m d - Cal.start y + 1 by omega)
  have hk : k < 1000 := by omega
  have Y := Lib.hid (fun w => ryear_pre y y1 y2 w)
  have D := Lib.hid (fun w => rdate_num y m d w v)
  have N := fun w => rnth_ok y m d w v
  rw [ek] at N
  have N := Lib.hid N
  have S := fun (x : ByteArray) => says_two v hm hd hk ek.symm (x := x)
  have R0 : readOf (pre y ++ mdl m d) = some (Cal.num y m d) := by rw [← txt_pre]; exact txt_read y m d v hm hd
  have on : onNth y k = some (Cal.num y m d) := by unfold onNth; rw [if_pos (by omega)]; congr 1; omega
  have R1 : readOf (pre y ++ ndl k) = some (Cal.num y m d) := by rw [readOf_pre y1 y2, tail_nd y hk]; exact on
  rw [txt_pre]
  have ra := v.range
  generalize Cal.num y m d = n at *
  by_cases hW : -4371587 ≤ n - Cal.wd n + 4 ∧ n - Cal.wd n + 4 < 2932897
  · obtain ⟨z, mm, dd, v', e'⟩ := Cal.some_date _ hW.1 hW.2
    have wi' := v'.within
    rw [e'] at wi'
    have iw := Cal.in_weeks n z wi'.1 wi'.2.1
    have z1 := v'.y1
    have z2 := v'.y2
    have on' := Cal.op_next z z1 z2
    have wb := Cal.weeks_bd z
    have wdb := Cal.wd_bd n
    obtain ⟨u, eu⟩ := Int.eq_ofNat_of_zero_le (show 0 ≤ (n - Cal.op z) / 7 + 1 by omega)
    obtain ⟨e, ee⟩ := Int.eq_ofNat_of_zero_le (show 0 ≤ Cal.wd n by omega)
    have hu : u < 100 := by omega
    have he : e < 10 := by omega
    have W := fun w => rweek_ok n z w z1 z2 iw.1 iw.2 ra.1 ra.2
    rw [eu, ee] at W
    have W := Lib.hid W
    have Y2 := Lib.hid (fun w => ryear_pre z z1 z2 w)
    have ow : onWeek z u e = some n := by
      have q := Cal.op_wd z n
      unfold onWeek
      rw [if_pos (by omega), if_pos (by omega)]
      congr 1
      omega
    have R2 : readOf (pre z ++ wdl u e) = some n := by rw [readOf_pre z1 z2, tail_wd z hu he]; exact ow
    refine ⟨[⟨(pre y ++ ndl k).toArray⟩, ⟨(pre z ++ wdl u e).toArray⟩], ⟨fun w => ?_, fun x => ⟨fun hx => ?_, fun hx => ?_⟩⟩⟩
    · show Calls Tryd.prog 20 #[.int .i64 n] w fun e' w' => ∃ v, e' = .returned v ∧ w'.ownsRow w.heap.size 9 1 v 3 [.string _, .string _, .string _] ∧ Below w.heap.size w w'
      rw [← t0_is y m d hm hd, ← t1_is y k hk, ← t2_is z u e hu he]
      rcases pre_size y with ⟨-, s⟩ | ⟨-, s⟩
      · rcases pre_size z with ⟨-, s'⟩ | ⟨-, s'⟩
        · exact rtexts_three_4_4 n y z _ _ s s' m d k u e hu he hm hd hk Y D N W Y2 w
        · exact rtexts_three_4_5 n y z _ _ s s' m d k u e hu he hm hd hk Y D N W Y2 w
      · rcases pre_size z with ⟨-, s'⟩ | ⟨-, s'⟩
        · exact rtexts_three_5_4 n y z _ _ s s' m d k u e hu he hm hd hk Y D N W Y2 w
        · exact rtexts_three_5_5 n y z _ _ s s' m d k u e hu he hm hd hk Y D N W Y2 w
    · simp only [List.mem_cons, List.not_mem_nil, or_false] at hx
      rcases hx with rfl | rfl | rfl
      · simpa using R0
      · simpa using R1
      · simpa using R2
    · simp only [List.mem_cons, List.not_mem_nil, or_false]
      rcases S x hx with h | h | ⟨Y', u', e2, hu', he', Y1, Y2, h, o⟩
      · exact .inl h
      · exact .inr (.inl h)
      · have p := week_place o
        have q := same_week z1 z2 Y1 Y2 iw ⟨p.2.2.1, p.2.2.2.1⟩
        subst q
        right; right
        rw [h, show u' = u by omega, show e2 = e by omega]
  · have W := Lib.hid (fun w => rweek_no n w (fun h => hW h.2.2))
    refine ⟨[⟨(pre y ++ ndl k).toArray⟩], ⟨fun w => ?_, fun x => ⟨fun hx => ?_, fun hx => ?_⟩⟩⟩
    · show Calls Tryd.prog 20 #[.int .i64 n] w fun e' w' => ∃ v, e' = .returned v ∧ w'.ownsRow w.heap.size 9 1 v 2 [.string _, .string _] ∧ Below w.heap.size w w'
      rw [← t0_is y m d hm hd, ← t1_is y k hk]
      rcases pre_size y with ⟨-, s⟩ | ⟨-, s⟩
      · exact rtexts_two n y _ s m d k hm hd hk Y D N W w
      · exact rtexts_two_5 n y _ s m d k hm hd hk Y D N W w
    · simp only [List.mem_cons, List.not_mem_nil, or_false] at hx
      rcases hx with rfl | rfl
      · simpa using R0
      · simpa using R1
    · simp only [List.mem_cons, List.not_mem_nil, or_false]
      rcases S x hx with h | h | ⟨Y', u', e', hu', he', Y1, Y2, h, o⟩
      · exact .inl h
      · exact .inr h
      · exfalso
        apply hW
        have p := week_place o
        have o1 : Cal.start Y' ≤ Cal.op Y' + 3 ∧ Cal.op Y' + 3 < Cal.start Y' + 7 := by unfold Cal.op Cal.wd; omega
        have o2 : Cal.start (Y' + 1) ≤ Cal.op (Y' + 1) + 3 ∧ Cal.op (Y' + 1) + 3 < Cal.start (Y' + 1) + 7 := by unfold Cal.op Cal.wd; omega
        have q := Cal.op_wd Y' n
        have on := Cal.op_next Y' Y1 Y2
        have b1 := Cal.start_bd Y' Y1 (by omega)
        have b2 := Cal.start_bd (Y' + 1) (by omega) (by omega)
        have wdb := Cal.wd_bd n
        omega
end Go.Proofs.YtmffagkgkbdkjaaDoor
