/- R8, R9, R9n, R10 in one. -/
import Derived.Test.YtllhcpkpbipjlaaDoorKy
import Derived.Test.YtllhcpkpbipjlaaDoorKz
namespace Go.Proofs.YtllhcpkpbipjlaaDoor
set_option linter.unusedVariables false
set_option linter.unusedSimpArgs false
open Go.ChangeShapes Go.WideShapes Go.ChangeAt Go.RowKit
open Cal (dg)

/-- Texts of a day: what the call answers, and which texts these are. -/
structure TextsIs (n : Int) (L : List ByteArray) : Prop where
  call : ∀ w, Calls Tryd.prog 68 #[.int .i64 n] w fun e w' => ∃ v, e = .returned v ∧ w'.ownsRow w.heap.size 9 1 v L.length (L.map Value.string) ∧ Below w.heap.size w w'
  says : ∀ x : ByteArray, x ∈ L ↔ readOf x.data.toList = some n

theorem readOf_pre {y : Int} (h1 : -9999 ≤ y) (h2 : y ≤ 9999) (t : List UInt8) : readOf (pre y ++ t) = tailOf y t := by
  unfold pre
  by_cases c : 0 ≤ y
  · rw [if_pos c]
    have h := readOf_pos (y := y.toNat) (by omega) t
    rw [show ((y.toNat : Nat) : Int) = y by omega] at h
    exact h
  · rw [if_neg c]
    have h := readOf_neg (y := (-y).toNat) (by omega) (by omega) t
    rw [show -(((-y).toNat : Nat) : Int) = y by omega] at h
    exact h

theorem ba_list (x : ByteArray) (l : List UInt8) (h : x.data.toList = l) : x = ⟨l.toArray⟩ := by
  subst h
  simp

theorem t0_is (y : Int) (m d : Nat) (hm : m < 100) (hd : d < 100) : (ByteArray.mk (pre y).toArray ++ ⟨#[45]⟩ ++ ⟨#[dg (m / 10 % 10), dg (m % 10)]⟩ ++ ⟨#[45]⟩ ++ ⟨#[dg (d / 10 % 10), dg (d % 10)]⟩) = ⟨(pre y ++ mdl m d).toArray⟩ := by
  rw [show m / 10 % 10 = m / 10 by omega, show d / 10 % 10 = d / 10 by omega]
  apply ba_list
  simp [ByteArray.data_append, mdl]
theorem t1_is (y : Int) (k : Nat) (hk : k < 1000) : (ByteArray.mk (pre y).toArray ++ ⟨#[45]⟩ ++ ⟨#[dg (k / 100 % 10), dg (k / 10 % 10), dg (k % 10)]⟩) = ⟨(pre y ++ ndl k).toArray⟩ := by
  rw [show k / 100 % 10 = k / 100 by omega]
  apply ba_list
  simp [ByteArray.data_append, ndl]
theorem t2_is (y : Int) (u e : Nat) (hu : u < 100) (he : e < 10) : (ByteArray.mk (pre y).toArray ++ ⟨#[45, 87]⟩ ++ ⟨#[dg (u / 10 % 10), dg (u % 10)]⟩ ++ ⟨#[45]⟩ ++ ⟨#[dg (e % 10)]⟩) = ⟨(pre y ++ wdl u e).toArray⟩ := by
  rw [show u / 10 % 10 = u / 10 by omega, show e % 10 = e by omega]
  apply ba_list
  simp [ByteArray.data_append, wdl]
theorem pre_size (y : Int) : (0 ≤ y ∧ (ByteArray.mk (pre y).toArray).size = 4) ∨ (y < 0 ∧ (ByteArray.mk (pre y).toArray).size = 5) := by
  have h := pre_len y
  simpa [ByteArray.size] using h

/-- The day of a year and a place in it; of a year and a month and a day: told apart by nothing else. -/
theorem same_year {n y Y : Int} (hy : Cal.start y ≤ n ∧ n < Cal.start (y + 1)) (hY : Cal.start Y ≤ n ∧ n < Cal.start (Y + 1)) : Y = y := by
  rcases (show Y = y ∨ Y + 1 ≤ y ∨ y + 1 ≤ Y by omega) with q | q | q
  · exact q
  · have := Cal.start_mono (Y + 1) y q; omega
  · have := Cal.start_mono (y + 1) Y q; omega
theorem same_week {n y Y : Int} (y1 : -9999 ≤ y) (y2 : y ≤ 9999) (Y1 : -9999 ≤ Y) (Y2 : Y ≤ 9999) (hy : Cal.op y ≤ n ∧ n < Cal.op (y + 1)) (hY : Cal.op Y ≤ n ∧ n < Cal.op (Y + 1)) : Y = y := by
  rcases (show Y = y ∨ Y + 1 ≤ y ∨ y + 1 ≤ Y by omega) with q | q | q
  · exact q
  · have := op_up (Y + 1) y (by omega) q (by omega); omega
  · have := op_up (y + 1) Y (by omega) q (by omega); omega

theorem nth_place {y k n : Int} (h : onNth y k = some n) : Cal.start y ≤ n ∧ n < Cal.start (y + 1) ∧ k = n - Cal.start y + 1 := by
  obtain ⟨a1, a2, k1, k2, e⟩ := onNth_some h
  have ss := Cal.start_succ y
  omega
theorem week_place {y k d n : Int} (h : onWeek y k d = some n) : -9999 ≤ y ∧ y ≤ 9999 ∧ Cal.op y ≤ n ∧ n < Cal.op (y + 1) ∧ k = (n - Cal.op y) / 7 + 1 ∧ d = Cal.wd n := by
  obtain ⟨k1, k2, d1, d2, n1, n2, e⟩ := onWeek_some h
  have c := Cal.weeks_cov y (by omega)
  have on := Cal.op_next y c.1 c.2
  have ow := Cal.op_wd y n
  refine ⟨c.1, c.2, by omega, by omega, by omega, by omega⟩

theorem says_two {y : Int} {m d k : Nat} (v : Cal.Valid y m d) (hm : m < 100) (hd : d < 100) (hk : k < 1000) (ek : (k : Int) = Cal.num y m d - Cal.start y + 1) {x : ByteArray}
    (h : readOf x.data.toList = some (Cal.num y m d)) : x = ⟨(pre y ++ mdl m d).toArray⟩ ∨ x = ⟨(pre y ++ ndl k).toArray⟩ ∨
      (∃ (Y : Int) (u e : Nat), u < 100 ∧ e < 10 ∧ -9999 ≤ Y ∧ Y ≤ 9999 ∧ x = ⟨(pre Y ++ wdl u e).toArray⟩ ∧ onWeek Y u e = some (Cal.num y m d)) := by
  obtain ⟨Y, t, y1, y2, hx, ht⟩ := read_inv h
  rcases tail_inv ht with ⟨m', d', hm', hd', rfl, e⟩ | ⟨k', hk', rfl, e⟩ | ⟨k', w, hk', hw, rfl, e⟩
  · obtain ⟨v', e'⟩ := onDate_some e
    obtain ⟨rfl, em, ed⟩ := Cal.num_inj v' v e'
    left
    rw [ba_list x _ hx, show m' = m by omega, show d' = d by omega]
  · have p := nth_place e
    have wi := v.within
    have := same_year ⟨wi.1, wi.2.1⟩ ⟨p.1, p.2.1⟩
    subst this
    right; left
    rw [ba_list x _ hx, show k' = k by omega]
  · right; right
    exact ⟨Y, k', w, hk', hw, y1, y2, ba_list x _ hx, e⟩

theorem says_zero {n : Int} (h : ¬ (-4371587 ≤ n ∧ n < 2932897)) (x : List UInt8) : readOf x ≠ some n := by
  intro hr
  obtain ⟨Y, t, y1, y2, hx, ht⟩ := read_inv hr
  apply h
  rcases tail_inv ht with ⟨m', d', hm', hd', rfl, e⟩ | ⟨k', hk', rfl, e⟩ | ⟨k', w, hk', hw, rfl, e⟩
  · obtain ⟨v', e'⟩ := onDate_some e
    have := v'.range
    rw [e'] at this
    exact this
  · have p := nth_place e
    have a := onNth_some e
    have b1 := Cal.start_bd Y y1 (by omega)
    have b2 := Cal.start_bd (Y + 1) (by omega) (by omega)
    omega
  · have p := onWeek_some e
    exact ⟨p.2.2.2.2.1, p.2.2.2.2.2.1⟩

theorem texts_none (n : Int) (h : ¬ (-4371587 ≤ n ∧ n < 2932897)) : TextsIs n [] := by
  refine ⟨fun w => ?_, fun x => ⟨(fun hx => by cases hx), fun hx => absurd hx (says_zero h _)⟩⟩
  have D := Lib.hid (fun w => rdate_err n w h)
  clear h
  go_enter Tryd.func68, Tryd.ntmps68
  go_wp2_with (go_at_call 71; (with_reducible refine (D.out _).mono ?_); rintro e w' ⟨rfl, rfl⟩)
  go_returns
  exact ⟨_, rfl, World.ownsRow_nil _ _ _ _, Below.refl _ _⟩

theorem texts_some (y : Int) (m d : Nat) (v : Cal.Valid y m d) (hm : m < 100) (hd : d < 100) : ∃ r, TextsIs (Cal.num y m d) (⟨(txt y m d).toArray⟩ :: r) := by
  have y1 := v.y1
  have y2 := v.y2
  have wi := v.within
  have ss := Cal.start_succ y
  have lp := Cal.lp_01 y
  obtain ⟨k, ek⟩ := Int.eq_ofNat_of_zero_le (show 0 ≤ Cal.num y m d - Cal.start y + 1 by omega)
  have hk : k < 1000 := by omega
  have Y := Lib.hid (fun w => ryear_pre y y1 y2 w)
  have D := Lib.hid (fun w => rdate_num y m d w v)
  have N := fun w => rnth_ok y m d w v
  rw [ek] at N
  have N := Lib.hid N
  have S := fun (x : ByteArray) => says_two v hm hd hk ek.symm (x := x)
  have R0 : readOf (pre y ++ mdl m d) = some (Cal.num y m d) := by rw [← txt_pre]; exact txt_read y m d v hm hd
  have on : onNth y k = some (Cal.num y m d) := by unfold onNth; rw [if_pos (by omega)]; congr 1; omega
  have R1 : readOf (pre y ++ ndl k) = some (Cal.num y m d) := by rw [readOf_pre y1 y2, tail_nd y hk]; exact on
  rw [txt_pre]
  have ra := v.range
  generalize Cal.num y m d = n at *
  by_cases hW : -4371587 ≤ n - Cal.wd n + 4 ∧ n - Cal.wd n + 4 < 2932897
  · obtain ⟨z, mm, dd, v', e'⟩ := Cal.some_date _ hW.1 hW.2
    have wi' := v'.within
    rw [e'] at wi'
    have iw := Cal.in_weeks n z wi'.1 wi'.2.1
    have z1 := v'.y1
    have z2 := v'.y2
    have on' := Cal.op_next z z1 z2
    have wb := Cal.weeks_bd z
    have wdb := Cal.wd_bd n
    obtain ⟨u, eu⟩ := Int.eq_ofNat_of_zero_le (show 0 ≤ (n - Cal.op z) / 7 + 1 by omega)
    obtain ⟨e, ee⟩ := Int.eq_ofNat_of_zero_le (show 0 ≤ Cal.wd n by omega)
    have hu : u < 100 := by omega
    have he : e < 10 := by omega
    have W := fun w => rweek_ok n z w z1 z2 iw.1 iw.2 ra.1 ra.2
    rw [eu, ee] at W
    have W := Lib.hid W
    have Y2 := Lib.hid (fun w => ryear_pre z z1 z2 w)
    have ow : onWeek z u e = some n := by
      have q := Cal.op_wd z n
      unfold onWeek
      rw [if_pos (by omega), if_pos (by omega)]
      congr 1
      omega
    have R2 : readOf (pre z ++ wdl u e) = some n := by rw [readOf_pre z1 z2, tail_wd z hu he]; exact ow
    refine ⟨[⟨(pre y ++ ndl k).toArray⟩, ⟨(pre z ++ wdl u e).toArray⟩], ⟨fun w => ?_, fun x => ⟨fun hx => ?_, fun hx => ?_⟩⟩⟩
    · show Calls Tryd.prog 68 #[.int .i64 n] w fun e' w' => ∃ v, e' = .returned v ∧ w'.ownsRow w.heap.size 9 1 v 3 [.string _, .string _, .string _] ∧ Below w.heap.size w w'
      rw [← t0_is y m d hm hd, ← t1_is y k hk, ← t2_is z u e hu he]
      rcases pre_size y with ⟨-, s⟩ | ⟨-, s⟩
      · rcases pre_size z with ⟨-, s'⟩ | ⟨-, s'⟩
        · exact rtexts_three_4_4 n y z _ _ s s' m d k u e hu he hm hd hk Y D N W Y2 w
        · exact rtexts_three_4_5 n y z _ _ s s' m d k u e hu he hm hd hk Y D N W Y2 w
      · rcases pre_size z with ⟨-, s'⟩ | ⟨-, s'⟩
        · exact rtexts_three_5_4 n y z _ _ s s' m d k u e hu he hm hd hk Y D N W Y2 w
        · exact rtexts_three_5_5 n y z _ _ s s' m d k u e hu he hm hd hk Y D N W Y2 w
    · simp only [List.mem_cons, List.not_mem_nil, or_false] at hx
      rcases hx with rfl | rfl | rfl
      · simpa using R0
      · simpa using R1
      · simpa using R2
    · simp only [List.mem_cons, List.not_mem_nil, or_false]
      rcases S x hx with h | h | ⟨Y', u', e2, hu', he', Y1, Y2, h, o⟩
      · exact .inl h
      · exact .inr (.inl h)
      · have p := week_place o
        have q := same_week z1 z2 Y1 Y2 iw ⟨p.2.2.1, p.2.2.2.1⟩
        subst q
        right; right
        rw [h, show u' = u by omega, show e2 = e by omega]
  · have W := Lib.hid (fun w => rweek_no n w (fun h => hW h.2.2))
    refine ⟨[⟨(pre y ++ ndl k).toArray⟩], ⟨fun w => ?_, fun x => ⟨fun hx => ?_, fun hx => ?_⟩⟩⟩
    · show Calls Tryd.prog 68 #[.int .i64 n] w fun e' w' => ∃ v, e' = .returned v ∧ w'.ownsRow w.heap.size 9 1 v 2 [.string _, .string _] ∧ Below w.heap.size w w'
      rw [← t0_is y m d hm hd, ← t1_is y k hk]
      rcases pre_size y with ⟨-, s⟩ | ⟨-, s⟩
      · exact rtexts_two n y _ s m d k hm hd hk Y D N W w
      · exact rtexts_two_5 n y _ s m d k hm hd hk Y D N W w
    · simp only [List.mem_cons, List.not_mem_nil, or_false] at hx
      rcases hx with rfl | rfl
      · simpa using R0
      · simpa using R1
    · simp only [List.mem_cons, List.not_mem_nil, or_false]
      rcases S x hx with h | h | ⟨Y', u', e', hu', he', Y1, Y2, h, o⟩
      · exact .inl h
      · exact .inr h
      · exfalso
        apply hW
        have p := week_place o
        have o1 : Cal.start Y' ≤ Cal.op Y' + 3 ∧ Cal.op Y' + 3 < Cal.start Y' + 7 := by unfold Cal.op Cal.wd; omega
        have o2 : Cal.start (Y' + 1) ≤ Cal.op (Y' + 1) + 3 ∧ Cal.op (Y' + 1) + 3 < Cal.start (Y' + 1) + 7 := by unfold Cal.op Cal.wd; omega
        have q := Cal.op_wd Y' n
        have on := Cal.op_next Y' Y1 Y2
        have b1 := Cal.start_bd Y' Y1 (by omega)
        have b2 := Cal.start_bd (Y' + 1) (by omega) (by omega)
        have wdb := Cal.wd_bd n
        omega
open Cal (dg)

theorem texts_zero (n : Int) (h : ¬ (-4371587 ≤ n ∧ n < 2932897)) (w : World) : Calls Tryd.prog 68 #[.int .i64 n] w fun e w' => e = .returned (.slice none 0 0) ∧ w = w' := by
  have D := Lib.hid (fun w => rdate_err n w h)
  clear h
  go_enter Tryd.func68, Tryd.ntmps68
  go_wp2_with (go_at_call 71; (with_reducible refine (D.out _).mono ?_); rintro e w' ⟨rfl, rfl⟩)
  go_returns
  exact ⟨rfl, rfl⟩
theorem row_form {w : World} {B n : Nat} {v : Value} {xs : List Value} (h : w.ownsRow B 9 1 v n xs) (hn : 0 < n) : ∃ g cap, v = .slice (some ⟨g, 0, none⟩) n cap ∧ n ≤ cap ∧ cap ≤ maxLen ∧ ∀ j u, xs[j]? = some u → w.cell? ⟨g, j, none⟩ = some u := by
  have hc := h
  rcases h.2 with ⟨_, h0⟩ | ⟨g, cap, cur, rfl, h1, h2, h3, h4, h5⟩
  · omega
  · refine ⟨g, cap, rfl, h3, h4, fun j u hu => ?_⟩
    have := hc.cells (g := g) rfl j u hu
    have hadd : (⟨g, 0, none⟩ : Addr).add j = ⟨g, j, none⟩ := by unfold Addr.add; split <;> simp_all
    rw [hadd] at this
    exact this
/-- Where a day has texts, they lie in a row. -/
abbrev TextsAt (n : Int) (L : List ByteArray) : Prop := Hid (∀ w, Calls Tryd.prog 68 #[.int .i64 n] w fun e w' => ∃ g cap, e = .returned (.slice (some ⟨g, 0, none⟩) L.length cap) ∧ L.length ≤ cap ∧ cap ≤ maxLen ∧ Hid (∀ (j : Nat) (hj : j < L.length), w'.cell? ⟨g, j, none⟩ = some (.string L[j])) ∧ Below w.heap.size w w')
abbrev TextsNone (n : Int) : Prop := Hid (∀ w, Calls Tryd.prog 68 #[.int .i64 n] w fun e w' => e = .returned (.slice none 0 0) ∧ w = w')
theorem texts_cells {n : Int} {L : List ByteArray} (h : TextsIs n L) (hL : 0 < L.length) : TextsAt n L := Lib.hid fun w =>
  (h.call w).mono fun e w' ⟨v, he, ho, hb⟩ => by
    obtain ⟨g, cap, rfl, h1, h2, h3⟩ := row_form ho hL
    refine ⟨g, cap, he, h1, h2, Lib.hid fun j hj => h3 j _ ?_, hb⟩
    simp [hj]
theorem texts_any (n : Int) : (TextsNone n ∧ ∀ x, readOf x ≠ some n) ∨ ∃ L, TextsAt n L ∧ 0 < L.length ∧ ∀ x : ByteArray, x ∈ L ↔ readOf x.data.toList = some n := by
  by_cases r : -4371587 ≤ n ∧ n < 2932897
  · obtain ⟨y, m, d, v, rfl⟩ := Cal.some_date n r.1 r.2
    have mo := v.month
    have lb := Cal.len_bd y m mo.1 mo.2
    have d1 := v.d1
    have d2 := v.d2
    obtain ⟨m', rfl⟩ := Int.eq_ofNat_of_zero_le (show 0 ≤ m by omega)
    obtain ⟨d', rfl⟩ := Int.eq_ofNat_of_zero_le (show 0 ≤ d by omega)
    obtain ⟨r, h⟩ := texts_some y m' d' v (by omega) (by omega)
    exact .inr ⟨_, texts_cells h (by simp), by simp, h.says⟩
  · exact .inl ⟨Lib.hid (texts_zero n r), says_zero r⟩

/-- What Read is to answer. -/
abbrev Tells (s : ByteArray) (p q : Int) : Prop := Hid ((∀ n, readOf s.data.toList = some n → n = p ∧ 0 = q) ∧ (readOf s.data.toList = none → 0 = p ∧ 30 = q))
theorem tells_of (s : ByteArray) : Tells s (toldN (readOf s.data.toList)) (toldE (readOf s.data.toList)) := by
  refine Lib.hid ⟨fun n h => ?_, fun h => ?_⟩ <;> rw [h] <;> exact ⟨rfl, rfl⟩
/-- Where the day of a text lies. -/
abbrev Near (s : ByteArray) (b : Int) : Prop := Hid (∀ n, readOf s.data.toList = some n → b - 7 ≤ n ∧ n < b + 373)
theorem ba_ne {x s : ByteArray} (h : (x.toList == s.toList) = true) : x = s := by
  have := eq_of_beq h
  rw [ByteArray.toList_eq, ByteArray.toList_eq] at this
  apply ByteArray.ext
  exact Array.toList_inj.1 this
theorem nat_i64 {a b : Int} (h : a = b) : Value.int .i64 a = .int .i64 b := by rw [h]

set_option maxRecDepth 100000 in
set_option maxHeartbeats 4000000 in
theorem rread_pos (s : ByteArray) (hs : s.size ≤ 1000) (hs8 : (8 : Int) ≤ (s.size : Int)) (h0 : 0 < s.size) (c : UInt8) (hc : s[0] = c) (hc' : ((c.toNat : Int) == 45) = false) (v b p q : Int) (v0 : 0 ≤ v) (v1 : v ≤ 9999) (b0 : -4371587 ≤ b) (b1 : b ≤ 2932897)
    (N : Hid (∀ w, Calls Tryd.prog 66 #[.string (s.extract 0 4)] w fun e w' => e = .returned (.int .i64 v) ∧ w = w'))
    (D : Hid (∀ w, Calls Tryd.prog 67 #[.int .i64 (v), .int .i64 1, .int .i64 1] w fun e w' => e = .returned (.tuple #[.int .i64 b, .int .i64 0]) ∧ w = w'))
    (T : Tells s p q) (R : Near s b) (w : World) :
    Calls Tryd.prog 63 #[.string s] w fun e w' => e = .returned (.tuple #[.int .i64 p, .int .i64 q]) ∧ Below w.heap.size w w' := by
  have t1 : ¬ ((s.size : Int) < 8) := by omega
  have t2 : (0 : Int) < (s.size : Int) := by omega
  have t3 : ¬ v < 0 := by omega
  have t4 : (4 : Int) ≤ (s.size : Int) := by omega
  have t5 : 4 ≤ s.size := by omega
  have hs' : (s.size : Int) ≤ 1000 := by omega
  clear hs hs8
  go_enter Tryd.func63, Tryd.ntmps63
  go_wp2_with (first
    | (go_at_call 66; (with_reducible refine (N.out _).mono ?_); rintro e w' ⟨rfl, rfl⟩)
    | (go_at_call 67; (with_reducible refine (D.out _).mono ?_); rintro e w' ⟨rfl, rfl⟩))
  go_loopw [8] (fun nn wr => ∃ k : Int, nn = .int .i64 k ∧ b - 7 ≤ k ∧ k ≤ b + 373 ∧ Hid (∀ m, b - 7 ≤ m → m < k → readOf s.data.toList ≠ some m) ∧ Hid (Below w.heap.size w wr)) (fun nn _ => (b + 373 - intOf nn).toNat)
  case atStart => exact ⟨_, rfl, by omega, by omega, Lib.hid (fun m h1 h2 => absurd h1 (by omega)), Lib.hid (Below.refl _ _)⟩
  case round =>
    obtain ⟨k, rfl, k1, k2, HM, HB⟩ := hrel
    by_cases kl : k < b + 373
    · rcases texts_any k with ⟨C, hno⟩ | ⟨L, C, hL, hsays⟩
      · have HN := Lib.hid (hno s.data.toList)
        clear hno
        go_wp2_with (go_at_call 68; (with_reducible refine (C.out _).mono ?_); rintro e w1 ⟨rfl, rfl⟩)
        obtain ⟨wo, rfl⟩ : ∃ wo : World, wo = wr := ⟨_, rfl⟩
        go_loopw [10] (fun ii wi => wi = wo ∧ ii = .int .i64 0) (fun ii _ => 0)
        case atStart => exact ⟨rfl, rfl⟩
        case round =>
          obtain ⟨rfl, rfl⟩ := hrel
          go_wp2
          go_roundw
          case rel => exact ⟨k + 1, rfl, by omega, by omega, Lib.hid (fun m h1 h2 => by
            rcases (show m < k ∨ m = k by omega) with h | h
            · exact HM.out m h1 h
            · subst h; exact HN.out), HB⟩
          case measure => simp [intOf]; omega
      · have HS := Lib.hid (hsays s)
        have hL' : (0 : Int) < (L.length : Int) := by omega
        clear hsays
        go_wp2_with (go_at_call 68; (with_reducible refine (C.out _).mono ?_); rintro e w1 ⟨g, cap, rfl, hcap1, hcap2, HC, hb⟩; have HB1 := Lib.hid (HB.out.trans (hb.mono HB.out.size)); clear hb)
        unfold maxLen at hcap2
        go_loopw [10] (fun ii wi => wi = w1 ∧ ∃ j : Nat, ii = .int .i64 j ∧ j ≤ L.length ∧ Hid (∀ (t : Nat) (ht : t < j) (hl : t < L.length), L[t] ≠ s)) (fun ii _ => L.length - (intOf ii).toNat)
        case atStart => exact ⟨rfl, 0, rfl, Nat.zero_le _, Lib.hid (fun t ht => absurd ht (Nat.not_lt_zero _))⟩
        case round =>
          obtain ⟨rfl, j, rfl, j1, HJ⟩ := hrel
          by_cases jl : j < L.length
          · have cj := HC.out j jl
            have HX := Lib.hid (List.getElem_mem jl)
            obtain ⟨x, hx⟩ : ∃ x, L[j] = x := ⟨_, rfl⟩
            have HE := Lib.hid hx
            rw [hx] at cj
            clear hx
            cases hq : (x.toList == s.toList)
            · go_wp2
              go_roundw
              case rel => exact ⟨trivial, j + 1, by go_num, by omega, Lib.hid (fun t ht hl => by
                rcases (show t < j ∨ t = j by omega) with h | h
                · exact HJ.out t h hl
                · subst h
                  intro e
                  rw [HE.out] at e
                  rw [e] at hq
                  simp at hq)⟩
              case measure => simp [intOf]; omega
            · have HR := Lib.hid (show readOf s.data.toList = some k by
                refine HS.out.1 ?_
                rw [← ba_ne hq, ← HE.out]
                exact HX.out)
              go_wp2
              go_returns
              exact ⟨ret_int2 ((T.out.1 k HR.out).1) ((T.out.1 k HR.out).2), HB1.out⟩
          · have jj : j = L.length := by omega
            have HN := Lib.hid (show readOf s.data.toList ≠ some k by
              intro h
              obtain ⟨t, ht, e⟩ := List.getElem_of_mem (HS.out.2 h)
              exact HJ.out t (by omega) ht e)
            clear jj HJ
            go_wp2
            go_roundw
            case rel => exact ⟨k + 1, rfl, by omega, by omega, Lib.hid (fun m h1 h2 => by
              rcases (show m < k ∨ m = k by omega) with h | h
              · exact HM.out m h1 h
              · subst h; exact HN.out), HB1⟩
            case measure => simp [intOf]; omega
    · have HZ := Lib.hid (show readOf s.data.toList = none by
        cases h : readOf s.data.toList with
        | none => rfl
        | some m =>
          have n := R.out m h
          exact absurd h (HM.out m n.1 (by omega)))
      go_wp2
      go_returns
      exact ⟨ret_int2 (T.out.2 HZ.out).1 (T.out.2 HZ.out).2, HB.out⟩
open Cal (dg)


set_option maxRecDepth 100000 in
set_option maxHeartbeats 4000000 in
theorem rread_neg (s : ByteArray) (hs : s.size ≤ 1000) (hs8 : (9 : Int) ≤ (s.size : Int)) (h0 : 0 < s.size) (c : UInt8) (hc : s[0] = c) (hc' : ((c.toNat : Int) == 45) = true) (v b p q : Int) (v0 : 0 ≤ v) (v1 : v ≤ 9999) (b0 : -4371587 ≤ b) (b1 : b ≤ 2932897)
    (N : Hid (∀ w, Calls Tryd.prog 66 #[.string (s.extract 1 5)] w fun e w' => e = .returned (.int .i64 v) ∧ w = w'))
    (D : Hid (∀ w, Calls Tryd.prog 67 #[.int .i64 (-v), .int .i64 1, .int .i64 1] w fun e w' => e = .returned (.tuple #[.int .i64 b, .int .i64 0]) ∧ w = w'))
    (T : Tells s p q) (R : Near s b) (w : World) :
    Calls Tryd.prog 63 #[.string s] w fun e w' => e = .returned (.tuple #[.int .i64 p, .int .i64 q]) ∧ Below w.heap.size w w' := by
  have t1 : ¬ ((s.size : Int) < 9) := by omega
  have t2 : (0 : Int) < (s.size : Int) := by omega
  have t3 : ¬ v < 0 := by omega
  have t4 : (5 : Int) ≤ (s.size : Int) := by omega
  have t5 : 5 ≤ s.size := by omega
  have hs' : (s.size : Int) ≤ 1000 := by omega
  clear hs hs8
  go_enter Tryd.func63, Tryd.ntmps63
  go_wp2_with (first
    | (go_at_call 66; (with_reducible refine (N.out _).mono ?_); rintro e w' ⟨rfl, rfl⟩)
    | (go_at_call 67; (with_reducible refine (D.out _).mono ?_); rintro e w' ⟨rfl, rfl⟩))
  go_loopw [8] (fun nn wr => ∃ k : Int, nn = .int .i64 k ∧ b - 7 ≤ k ∧ k ≤ b + 373 ∧ Hid (∀ m, b - 7 ≤ m → m < k → readOf s.data.toList ≠ some m) ∧ Hid (Below w.heap.size w wr)) (fun nn _ => (b + 373 - intOf nn).toNat)
  case atStart => exact ⟨_, rfl, by omega, by omega, Lib.hid (fun m h1 h2 => absurd h1 (by omega)), Lib.hid (Below.refl _ _)⟩
  case round =>
    obtain ⟨k, rfl, k1, k2, HM, HB⟩ := hrel
    by_cases kl : k < b + 373
    · rcases texts_any k with ⟨C, hno⟩ | ⟨L, C, hL, hsays⟩
      · have HN := Lib.hid (hno s.data.toList)
        clear hno
        go_wp2_with (go_at_call 68; (with_reducible refine (C.out _).mono ?_); rintro e w1 ⟨rfl, rfl⟩)
        obtain ⟨wo, rfl⟩ : ∃ wo : World, wo = wr := ⟨_, rfl⟩
        go_loopw [10] (fun ii wi => wi = wo ∧ ii = .int .i64 0) (fun ii _ => 0)
        case atStart => exact ⟨rfl, rfl⟩
        case round =>
          obtain ⟨rfl, rfl⟩ := hrel
          go_wp2
          go_roundw
          case rel => exact ⟨k + 1, rfl, by omega, by omega, Lib.hid (fun m h1 h2 => by
            rcases (show m < k ∨ m = k by omega) with h | h
            · exact HM.out m h1 h
            · subst h; exact HN.out), HB⟩
          case measure => simp [intOf]; omega
      · have HS := Lib.hid (hsays s)
        have hL' : (0 : Int) < (L.length : Int) := by omega
        clear hsays
        go_wp2_with (go_at_call 68; (with_reducible refine (C.out _).mono ?_); rintro e w1 ⟨g, cap, rfl, hcap1, hcap2, HC, hb⟩; have HB1 := Lib.hid (HB.out.trans (hb.mono HB.out.size)); clear hb)
        unfold maxLen at hcap2
        go_loopw [10] (fun ii wi => wi = w1 ∧ ∃ j : Nat, ii = .int .i64 j ∧ j ≤ L.length ∧ Hid (∀ (t : Nat) (ht : t < j) (hl : t < L.length), L[t] ≠ s)) (fun ii _ => L.length - (intOf ii).toNat)
        case atStart => exact ⟨rfl, 0, rfl, Nat.zero_le _, Lib.hid (fun t ht => absurd ht (Nat.not_lt_zero _))⟩
        case round =>
          obtain ⟨rfl, j, rfl, j1, HJ⟩ := hrel
          by_cases jl : j < L.length
          · have cj := HC.out j jl
            have HX := Lib.hid (List.getElem_mem jl)
            obtain ⟨x, hx⟩ : ∃ x, L[j] = x := ⟨_, rfl⟩
            have HE := Lib.hid hx
            rw [hx] at cj
            clear hx
            cases hq : (x.toList == s.toList)
            · go_wp2
              go_roundw
              case rel => exact ⟨trivial, j + 1, by go_num, by omega, Lib.hid (fun t ht hl => by
                rcases (show t < j ∨ t = j by omega) with h | h
                · exact HJ.out t h hl
                · subst h
                  intro e
                  rw [HE.out] at e
                  rw [e] at hq
                  simp at hq)⟩
              case measure => simp [intOf]; omega
            · have HR := Lib.hid (show readOf s.data.toList = some k by
                refine HS.out.1 ?_
                rw [← ba_ne hq, ← HE.out]
                exact HX.out)
              go_wp2
              go_returns
              exact ⟨ret_int2 ((T.out.1 k HR.out).1) ((T.out.1 k HR.out).2), HB1.out⟩
          · have jj : j = L.length := by omega
            have HN := Lib.hid (show readOf s.data.toList ≠ some k by
              intro h
              obtain ⟨t, ht, e⟩ := List.getElem_of_mem (HS.out.2 h)
              exact HJ.out t (by omega) ht e)
            clear jj HJ
            go_wp2
            go_roundw
            case rel => exact ⟨k + 1, rfl, by omega, by omega, Lib.hid (fun m h1 h2 => by
              rcases (show m < k ∨ m = k by omega) with h | h
              · exact HM.out m h1 h
              · subst h; exact HN.out), HB1⟩
            case measure => simp [intOf]; omega
    · have HZ := Lib.hid (show readOf s.data.toList = none by
        cases h : readOf s.data.toList with
        | none => rfl
        | some m =>
          have n := R.out m h
          exact absurd h (HM.out m n.1 (by omega)))
      go_wp2
      go_returns
      exact ⟨ret_int2 (T.out.2 HZ.out).1 (T.out.2 HZ.out).2, HB.out⟩
open Cal (dg)

theorem rread_empty (s : ByteArray) (hs : s.size = 0) (w : World) :
    Calls Tryd.prog 63 #[.string s] w fun e w' => e = .returned (.tuple #[.int .i64 0, .int .i64 30]) ∧ w = w' := by
  have t1 : (s.size : Int) < 8 := by omega
  have t2 : ¬ (0 : Int) < (s.size : Int) := by omega
  clear hs
  go_enter Tryd.func63, Tryd.ntmps63
  go_wp2
  go_returns
  exact ⟨rfl, rfl⟩

theorem rread_short_pos (s : ByteArray) (h0 : 0 < s.size) (c : UInt8) (hc : s[0] = c) (hc' : ((c.toNat : Int) == 45) = false) (hs : s.size < 8) (w : World) :
    Calls Tryd.prog 63 #[.string s] w fun e w' => e = .returned (.tuple #[.int .i64 0, .int .i64 30]) ∧ w = w' := by
  have t1 : (s.size : Int) < 8 := by omega
  have t2 : (0 : Int) < (s.size : Int) := by omega
  clear hs
  go_enter Tryd.func63, Tryd.ntmps63
  go_wp2
  go_returns
  exact ⟨rfl, rfl⟩
theorem rread_bad_pos (s : ByteArray) (h0 : 0 < s.size) (c : UInt8) (hc : s[0] = c) (hc' : ((c.toNat : Int) == 45) = false) (hs : s.size ≤ 1000) (hs8 : 8 ≤ s.size)
    (N : Hid (∀ w, Calls Tryd.prog 66 #[.string (s.extract 0 4)] w fun e w' => e = .returned (.int .i64 (-1)) ∧ w = w')) (w : World) :
    Calls Tryd.prog 63 #[.string s] w fun e w' => e = .returned (.tuple #[.int .i64 0, .int .i64 30]) ∧ w = w' := by
  have t1 : ¬ ((s.size : Int) < 8) := by omega
  have t2 : (0 : Int) < (s.size : Int) := by omega
  have t4 : (4 : Int) ≤ (s.size : Int) := by omega
  have t5 : 4 ≤ s.size := by omega
  have hs' : (s.size : Int) ≤ 1000 := by omega
  clear hs hs8
  go_enter Tryd.func63, Tryd.ntmps63
  go_wp2_with (go_at_call 66; (with_reducible refine (N.out _).mono ?_); rintro e w' ⟨rfl, rfl⟩)
  go_returns
  exact ⟨rfl, rfl⟩

theorem rread_short_neg (s : ByteArray) (h0 : 0 < s.size) (c : UInt8) (hc : s[0] = c) (hc' : ((c.toNat : Int) == 45) = true) (hs : s.size < 9) (w : World) :
    Calls Tryd.prog 63 #[.string s] w fun e w' => e = .returned (.tuple #[.int .i64 0, .int .i64 30]) ∧ w = w' := by
  have t1 : (s.size : Int) < 9 := by omega
  have t2 : (0 : Int) < (s.size : Int) := by omega
  clear hs
  go_enter Tryd.func63, Tryd.ntmps63
  go_wp2
  go_returns
  exact ⟨rfl, rfl⟩
theorem rread_bad_neg (s : ByteArray) (h0 : 0 < s.size) (c : UInt8) (hc : s[0] = c) (hc' : ((c.toNat : Int) == 45) = true) (hs : s.size ≤ 1000) (hs8 : 9 ≤ s.size)
    (N : Hid (∀ w, Calls Tryd.prog 66 #[.string (s.extract 1 5)] w fun e w' => e = .returned (.int .i64 (-1)) ∧ w = w')) (w : World) :
    Calls Tryd.prog 63 #[.string s] w fun e w' => e = .returned (.tuple #[.int .i64 0, .int .i64 30]) ∧ w = w' := by
  have t1 : ¬ ((s.size : Int) < 9) := by omega
  have t2 : (0 : Int) < (s.size : Int) := by omega
  have t4 : (5 : Int) ≤ (s.size : Int) := by omega
  have t5 : 5 ≤ s.size := by omega
  have hs' : (s.size : Int) ≤ 1000 := by omega
  clear hs hs8
  go_enter Tryd.func63, Tryd.ntmps63
  go_wp2_with (go_at_call 66; (with_reducible refine (N.out _).mono ?_); rintro e w' ⟨rfl, rfl⟩)
  go_returns
  exact ⟨rfl, rfl⟩

theorem read_long {l : List UInt8} {n : Int} (h : readOf l = some n) : 8 ≤ l.length ∧ (∀ t, l = 45 :: t → 9 ≤ l.length) := by
  obtain ⟨Y, t, y1, y2, rfl, ht⟩ := read_inv h
  have pl := pre_len Y
  have tl : 4 ≤ t.length := by
    rcases tail_inv ht with ⟨m, d, _, _, rfl, _⟩ | ⟨k, _, rfl, _⟩ | ⟨k, d, _, _, rfl, _⟩
    · show 4 ≤ 6; omega
    · show 4 ≤ 4; omega
    · show 4 ≤ 6; omega
  rw [List.length_append]
  refine ⟨by omega, fun t' e => ?_⟩
  rcases pl with ⟨p, q⟩ | ⟨p, q⟩
  · exfalso
    obtain ⟨a, l, e', ha, _⟩ := head_pre Y ⟨y1, y2⟩ t
    rw [e'] at e
    rcases ha with ⟨c, _⟩ | ⟨_, c⟩
    · omega
    · exact c (List.cons.inj e).1
  · omega
theorem tail_near {y n : Int} {t : List UInt8} (h1 : -9999 ≤ y) (h2 : y ≤ 9999) (h : tailOf y t = some n) : Cal.start y - 7 ≤ n ∧ n < Cal.start y + 373 := by
  have ss := Cal.start_succ y
  have lp := Cal.lp_01 y
  rcases tail_inv h with ⟨m, d, _, _, _, e⟩ | ⟨k, _, _, e⟩ | ⟨k, d, _, _, _, e⟩
  · obtain ⟨v, e'⟩ := onDate_some e
    have wi := v.within
    rw [e'] at wi
    omega
  · have p := nth_place e
    omega
  · have p := week_place e
    have o1 : Cal.start y ≤ Cal.op y + 3 ∧ Cal.op y + 3 < Cal.start y + 7 := by unfold Cal.op Cal.wd; omega
    have o2 : Cal.start (y + 1) ≤ Cal.op (y + 1) + 3 ∧ Cal.op (y + 1) + 3 < Cal.start (y + 1) + 7 := by unfold Cal.op Cal.wd; omega
    omega
theorem hp_ne {a : UInt8} (h : a ≠ 45) (t : List UInt8) : Lib.hasPrefix (a :: t) [45] = false := by
  unfold Lib.hasPrefix
  simp [List.isPrefixOf]
  exact fun e => h e.symm
theorem tp_ne {a : UInt8} (h : a ≠ 45) (t : List UInt8) : Lib.trimPrefix (a :: t) [45] = a :: t := by
  unfold Lib.trimPrefix
  rw [hp_ne h]; rfl
theorem u8_ne {a : UInt8} (h : a ≠ 45) : ((a.toNat : Int) == 45) = false := by
  rw [beq_eq_false_iff_ne]
  intro e
  exact h (UInt8.toNat_inj.1 (by show a.toNat = 45; omega))

theorem rread_any (s : ByteArray) (hs : s.size ≤ 1000) (w : World) :
    Calls Tryd.prog 63 #[.string s] w fun e w' => e = .returned (.tuple #[.int .i64 (toldN (readOf s.data.toList)), .int .i64 (toldE (readOf s.data.toList))]) ∧ Below w.heap.size w w' := by
  have none_of : readOf s.data.toList = none → (Calls Tryd.prog 63 #[.string s] w fun e w' => e = .returned (.tuple #[.int .i64 0, .int .i64 30]) ∧ w = w') →
      Calls Tryd.prog 63 #[.string s] w fun e w' => e = .returned (.tuple #[.int .i64 (toldN (readOf s.data.toList)), .int .i64 (toldE (readOf s.data.toList))]) ∧ Below w.heap.size w w' := by
    intro h c
    rw [h]
    exact c.mono fun e w' ⟨he, hw⟩ => ⟨he, hw ▸ Below.refl _ _⟩
  have T := tells_of s
  generalize hl : s.data.toList = l at *
  have sl : s.size = l.length := by rw [← hl, Array.length_toList]; rfl
  have se : s = ⟨l.toArray⟩ := ba_list s l hl
  match l, hl, sl, se with
  | [], hl, sl, se =>
    exact none_of rfl (rread_empty s (by rw [sl]; rfl) w)
  | a :: t, hl, sl, se =>
    have h0 : 0 < s.size := by rw [sl]; simp
    have hc : s[0] = a := by subst se; rfl
    have short : ∀ k, s.size < k → (∀ n, readOf (a :: t) = some n → k ≤ (a :: t).length) → readOf (a :: t) = none := by
      intro k hk hn
      cases hr : readOf (a :: t) with
      | none => rfl
      | some n => exact absurd (hn n hr) (by omega)
    by_cases ha : a = 45
    · subst ha
      by_cases h9 : s.size < 9
      · exact none_of (short 9 h9 fun n hn => (read_long hn).2 t rfl) (rread_short_neg s h0 45 hc rfl h9 w)
      · match t, hl, sl, se with
        | b :: c :: d :: e :: r, hl, sl, se =>
          have ex : s.extract 1 5 = ⟨#[b, c, d, e]⟩ := by
            subst se
            apply ByteArray.ext
            simp [ByteArray.data_extract]
          have ro : readOf (45 :: b :: c :: d :: e :: r) = if fitY b c d e then (if valY b c d e = 0 then none else tailOf (-(valY b c d e)) r) else none := by
            unfold readOf
            rw [pre_45, trim_45]
            simp only [restOf]
            simp
          by_cases hf : fitY b c d e
          · have bd := valY_bd hf
            rw [if_pos hf] at ro
            refine rread_neg s hs (by omega) h0 45 hc rfl (valY b c d e) (Cal.start (-(valY b c d e))) _ _ bd.1 bd.2 (Cal.start_bd _ (by omega) (by omega)).1 (Cal.start_bd _ (by omega) (by omega)).2 (Lib.hid fun w => ?_) (Lib.hid fun w => ?_) T (Lib.hid fun n hn => ?_) w
            · rw [ex]; exact rnumber b c d e _ (.inl ⟨hf, rfl⟩) w
            · have h := rdays_valid (-(valY b c d e)) 1 1 w (Cal.valid_day _ 1 (by omega) (by omega) (by omega) (by omega))
              rw [Cal.first] at h
              exact h
            · rw [hl, ro] at hn
              split at hn
              · cases hn
              · exact tail_near (by omega) (by omega) hn
          · rw [if_neg hf] at ro
            refine none_of ro (rread_bad_neg s h0 45 hc rfl hs (by omega) (Lib.hid fun w => ?_) w)
            rw [ex]; exact rnumber b c d e _ (.inr ⟨hf, rfl⟩) w
        | [], _, sl, _ => exact absurd sl (by simp at *; omega)
        | [_], _, sl, _ => exact absurd sl (by simp at *; omega)
        | [_, _], _, sl, _ => exact absurd sl (by simp at *; omega)
        | [_, _, _], _, sl, _ => exact absurd sl (by simp at *; omega)
    · by_cases h8 : s.size < 8
      · exact none_of (short 8 h8 fun n hn => (read_long hn).1) (rread_short_pos s h0 a hc (u8_ne ha) h8 w)
      · match t, hl, sl, se with
        | c :: d :: e :: r, hl, sl, se =>
          have ex : s.extract 0 4 = ⟨#[a, c, d, e]⟩ := by
            subst se
            apply ByteArray.ext
            simp [ByteArray.data_extract]
          have ro : readOf (a :: c :: d :: e :: r) = if fitY a c d e then tailOf (valY a c d e) r else none := by
            unfold readOf
            rw [hp_ne ha, tp_ne ha]
            simp only [restOf]
            simp
          by_cases hf : fitY a c d e
          · have bd := valY_bd hf
            rw [if_pos hf] at ro
            refine rread_pos s hs (by omega) h0 a hc (u8_ne ha) (valY a c d e) (Cal.start (valY a c d e)) _ _ bd.1 bd.2 (Cal.start_bd _ (by omega) (by omega)).1 (Cal.start_bd _ (by omega) (by omega)).2 (Lib.hid fun w => ?_) (Lib.hid fun w => ?_) T (Lib.hid fun n hn => ?_) w
            · rw [ex]; exact rnumber a c d e _ (.inl ⟨hf, rfl⟩) w
            · have h := rdays_valid (valY a c d e) 1 1 w (Cal.valid_day _ 1 (by omega) (by omega) (by omega) (by omega))
              rw [Cal.first] at h
              exact h
            · rw [hl, ro] at hn
              exact tail_near (by omega) (by omega) hn
          · rw [if_neg hf] at ro
            refine none_of ro (rread_bad_pos s h0 a hc (u8_ne ha) hs (by omega) (Lib.hid fun w => ?_) w)
            rw [ex]; exact rnumber a c d e _ (.inr ⟨hf, rfl⟩) w
        | [], _, sl, _ => exact absurd sl (by simp at *; omega)
        | [_], _, sl, _ => exact absurd sl (by simp at *; omega)
        | [_, _], _, sl, _ => exact absurd sl (by simp at *; omega)
end Go.Proofs.YtllhcpkpbipjlaaDoor
