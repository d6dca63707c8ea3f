/- Contracts of the document's own answer for layer 4: Read, at any text of at most 40 bytes. -/
import Derived.Test.YtmffagkgkbdkjaaDoorR9
import Derived.Test.YtmffagkgkbdkjaaDoorR9n
namespace Go.Proofs.YtmffagkgkbdkjaaDoor
set_option linter.unusedVariables false
set_option linter.unusedSimpArgs false
open Go.ChangeShapes Go.WideShapes Go.ChangeAt Go.RowKit
open Cal (dg)

theorem rread_empty (s : ByteArray) (hs : s.size = 0) (w : World) :
    Calls Tryd.prog 22 #[.string s] w fun e w' => e = .returned (.tuple #[.int .i64 0, .int .i64 30]) ∧ w = w' := by
  have t1 : (s.size : Int) < 8 := by omega
  have t2 : ¬ (0 : Int) < (s.size : Int) := by omega
  clear hs
  go_enter Tryd.func22, Tryd.ntmps22
  go_wp2
  go_returns
  exact ⟨rfl, rfl⟩

theorem rread_short_pos (s : ByteArray) (h0 : 0 < s.size) (c : UInt8) (hc : s[0] = c) (hc' : ((c.toNat : Int) == 45) = false) (hs : s.size < 8) (w : World) :
    Calls Tryd.prog 22 #[.string s] w fun e w' => e = .returned (.tuple #[.int .i64 0, .int .i64 30]) ∧ w = w' := by
  have t1 : (s.size : Int) < 8 := by omega
  have t2 : (0 : Int) < (s.size : Int) := by omega
  clear hs
  go_enter Tryd.func22, Tryd.ntmps22
  go_wp2
  go_returns
  exact ⟨rfl, rfl⟩
theorem rread_bad_pos (s : ByteArray) (h0 : 0 < s.size) (c : UInt8) (hc : s[0] = c) (hc' : ((c.toNat : Int) == 45) = false) (hs : s.size ≤ 40) (hs8 : 8 ≤ s.size)
    (N : Hid (∀ w, Calls Tryd.prog 42 #[.string (s.extract 0 4)] w fun e w' => e = .returned (.int .i64 (-1)) ∧ w = w')) (w : World) :
    Calls Tryd.prog 22 #[.string s] w fun e w' => e = .returned (.tuple #[.int .i64 0, .int .i64 30]) ∧ w = w' := by
  have t1 : ¬ ((s.size : Int) < 8) := by omega
  have t2 : (0 : Int) < (s.size : Int) := by omega
  have t4 : (4 : Int) ≤ (s.size : Int) := by omega
  have t5 : 4 ≤ s.size := by omega
  have hs' : (s.size : Int) ≤ 40 := by omega
  clear hs hs8
  go_enter Tryd.func22, Tryd.ntmps22
  go_wp2_with (go_at_call 42; (with_reducible refine (N.out _).mono ?_); rintro e w' ⟨rfl, rfl⟩)
  go_returns
  exact ⟨rfl, rfl⟩

theorem rread_short_neg (s : ByteArray) (h0 : 0 < s.size) (c : UInt8) (hc : s[0] = c) (hc' : ((c.toNat : Int) == 45) = true) (hs : s.size < 9) (w : World) :
    Calls Tryd.prog 22 #[.string s] w fun e w' => e = .returned (.tuple #[.int .i64 0, .int .i64 30]) ∧ w = w' := by
  have t1 : (s.size : Int) < 9 := by omega
  have t2 : (0 : Int) < (s.size : Int) := by omega
  clear hs
  go_enter Tryd.func22, Tryd.ntmps22
  go_wp2
  go_returns
  exact ⟨rfl, rfl⟩
theorem rread_bad_neg (s : ByteArray) (h0 : 0 < s.size) (c : UInt8) (hc : s[0] = c) (hc' : ((c.toNat : Int) == 45) = true) (hs : s.size ≤ 40) (hs8 : 9 ≤ s.size)
    (N : Hid (∀ w, Calls Tryd.prog 42 #[.string (s.extract 1 5)] w fun e w' => e = .returned (.int .i64 (-1)) ∧ w = w')) (w : World) :
    Calls Tryd.prog 22 #[.string s] w fun e w' => e = .returned (.tuple #[.int .i64 0, .int .i64 30]) ∧ w = w' := by
  have t1 : ¬ ((s.size : Int) < 9) := by omega
  have t2 : (0 : Int) < (s.size : Int) := by omega
  have t4 : (5 : Int) ≤ (s.size : Int) := by omega
  have t5 : 5 ≤ s.size := by omega
  have hs' : (s.size : Int) ≤ 40 := by omega
  clear hs hs8
  go_enter Tryd.func22, Tryd.ntmps22
  go_wp2_with (go_at_call 42; (with_reducible refine (N.out _).mono ?_); rintro e w' ⟨rfl, rfl⟩)
  go_returns
  exact ⟨rfl, rfl⟩

theorem read_long {l : List UInt8} {n : Int} (h : readOf l = some n) : 8 ≤ l.length ∧ (∀ t, l = 45 :: t → 9 ≤ l.length) := by
  obtain ⟨Y, t, y1, y2, rfl, ht⟩ := read_inv h
  have pl := pre_len Y
  have tl : 4 ≤ t.length := by
    rcases tail_inv ht with ⟨m, d, _, _, rfl, _⟩ | ⟨k, _, rfl, _⟩ | ⟨k, d, _, _, rfl, _⟩
    · show 4 ≤ 6; omega
    · show 4 ≤ 4; omega
    · show 4 ≤ 6; omega
  rw [List.length_append]
  refine ⟨by omega, fun t' e => ?_⟩
  rcases pl with ⟨p, q⟩ | ⟨p, q⟩
  · exfalso
    obtain ⟨a, l, e', ha, _⟩ := head_pre Y ⟨y1, y2⟩ t
    rw [e'] at e
    rcases ha with ⟨c, _⟩ | ⟨_, c⟩
    · omega
    · exact c (List.cons.inj e).1
  · omega
theorem tail_near {y n : Int} {t : List UInt8} (h1 : -9999 ≤ y) (h2 : y ≤ 9999) (h : tailOf y t = some n) : Cal.start y - 7 ≤ n ∧ n < Cal.start y + 373 := by
  have ss := Cal.start_succ y
  have lp := Cal.lp_01 y
  rcases tail_inv h with ⟨m, d, _, _, _, e⟩ | ⟨k, _, _, e⟩ | ⟨k, d, _, _, _, e⟩
  · obtain ⟨v, e'⟩ := onDate_some e
    have wi := v.within
    rw [e'] at wi
    omega
  · have p := nth_place e
    omega
  · have p := week_place e
    have o1 : Cal.start y ≤ Cal.op y + 3 ∧ Cal.op y + 3 < Cal.start y + 7 := by unfold Cal.op Cal.wd; omega
    have o2 : Cal.start (y + 1) ≤ Cal.op (y + 1) + 3 ∧ Cal.op (y + 1) + 3 < Cal.start (y + 1) + 7 := by unfold Cal.op Cal.wd; omega
    omega
theorem hp_ne {a : UInt8} (h : a ≠ 45) (t : List UInt8) : Lib.hasPrefix (a :: t) [45] = false := by
  unfold Lib.hasPrefix
  simp [List.isPrefixOf]
  exact fun e => h e.symm
theorem tp_ne {a : UInt8} (h : a ≠ 45) (t : List UInt8) : Lib.trimPrefix (a :: t) [45] = a :: t := by
  unfold Lib.trimPrefix
  rw [hp_ne h]; rfl
theorem u8_ne {a : UInt8} (h : a ≠ 45) : ((a.toNat : Int) == 45) = false := by
  rw [beq_eq_false_iff_ne]
  intro e
  exact h (UInt8.toNat_inj.1 (by show a.toNat = 45; omega))

theorem rread_any (s : ByteArray) (hs : s.size ≤ 40) (w : World) :
    Calls Tryd.prog 22 #[.string s] w fun e w' => e = .returned (.tuple #[.int .i64 (toldN (readOf s.data.toList)), .int .i64 (toldE (readOf s.data.toList))]) ∧ Below w.heap.size w w' := by
  have none_of : readOf s.data.toList = none → (Calls Tryd.prog 22 #[.string s] w fun e w' => e = .returned (.tuple #[.int .i64 0, .int .i64 30]) ∧ w = w') →
      Calls Tryd.prog 22 #[.string s] w fun e w' => e = .returned (.tuple #[.int .i64 (toldN (readOf s.data.toList)), .int .i64 (toldE (readOf s.data.toList))]) ∧ Below w.heap.size w w' := by
    intro h c
    rw [h]
    exact c.mono fun e w' ⟨he, hw⟩ => ⟨he, hw ▸ Below.refl _ _⟩
  have T := tells_of s
  generalize hl : s.data.toList = l at *
  have sl : s.size = l.length := by rw [← hl, Array.length_toList]; rfl
  have se : s = ⟨l.toArray⟩ := ba_list s l hl
  match l, hl, sl, se with
  | [], hl, sl, se =>
    exact none_of rfl (rread_empty s (by rw [sl]; rfl) w)
  | a :: t, hl, sl, se =>
    have h0 : 0 < s.size := by rw [sl]; simp
    have hc : s[0] = a := by subst se; rfl
    have short : ∀ k, s.size < k → (∀ n, readOf (a :: t) = some n → k ≤ (a :: t).length) → readOf (a :: t) = none := by
      intro k hk hn
      cases hr : readOf (a :: t) with
      | none => rfl
      | some n => exact absurd (hn n hr) (by omega)
    by_cases ha : a = 45
    · subst ha
      by_cases h9 : s.size < 9
      · exact none_of (short 9 h9 fun n hn => (read_long hn).2 t rfl) (rread_short_neg s h0 45 hc rfl h9 w)
      · match t, hl, sl, se with
        | b :: c :: d :: e :: r, hl, sl, se =>
          have ex : s.extract 1 5 = ⟨#[b, c, d, e]⟩ := by
            subst se
            apply ByteArray.ext
            simp [ByteArray.data_extract]
          have ro : readOf (45 :: b :: c :: d :: e :: r) = if fitY b c d e then (if valY b c d e = 0 then none else tailOf (-(valY b c d e)) r) else none := by
            unfold readOf
            rw [pre_45, trim_45]
            simp only [restOf]
            simp
          by_cases hf : fitY b c d e
          · have bd := valY_bd hf
            rw [if_pos hf] at ro
            refine rread_neg s hs (by omega) h0 45 hc rfl (valY b c d e) (Cal.start (-(valY b c d e))) _ _ bd.1 bd.2 (Cal.start_bd _ (by omega) (by omega)).1 (Cal.start_bd _ (by omega) (by omega)).2 (Lib.hid fun w => ?_) (Lib.hid fun w => ?_) T (Lib.hid fun n hn => ?_) w
            · rw [ex]; exact rnumber b c d e _ (.inl ⟨hf, rfl⟩) w
            · have h := rdays_valid (-(valY b c d e)) 1 1 w (Cal.valid_day _ 1 (by omega) (by omega) (by omega) (by omega))
              rw [Cal.first] at h
              exact h
            · rw [hl, ro] at hn
              split at hn
              · cases hn
              · exact tail_near (by omega) (by omega) hn
          · rw [if_neg hf] at ro
            refine none_of ro (rread_bad_neg s h0 45 hc rfl hs (by omega) (Lib.hid fun w => ?_) w)
            rw [ex]; exact rnumber b c d e _ (.inr ⟨hf, rfl⟩) w
        | [], _, sl, _ => exact absurd sl (by simp at *; omega)
        | [_], _, sl, _ => exact absurd sl (by simp at *; omega)
        | [_, _], _, sl, _ => exact absurd sl (by simp at *; omega)
        | [_, _, _], _, sl, _ => exact absurd sl (by simp at *; omega)
    · by_cases h8 : s.size < 8
      · exact none_of (short 8 h8 fun n hn => (read_long hn).1) (rread_short_pos s h0 a hc (u8_ne ha) h8 w)
      · match t, hl, sl, se with
        | c :: d :: e :: r, hl, sl, se =>
          have ex : s.extract 0 4 = ⟨#[a, c, d, e]⟩ := by
            subst se
            apply ByteArray.ext
            simp [ByteArray.data_extract]
          have ro : readOf (a :: c :: d :: e :: r) = if fitY a c d e then tailOf (valY a c d e) r else none := by
            unfold readOf
            rw [hp_ne ha, tp_ne ha]
            simp only [restOf]
            simp
          by_cases hf : fitY a c d e
          · have bd := valY_bd hf
            rw [if_pos hf] at ro
            refine rread_pos s hs (by omega) h0 a hc (u8_ne ha) (valY a c d e) (Cal.start (valY a c d e)) _ _ bd.1 bd.2 (Cal.start_bd _ (by omega) (by omega)).1 (Cal.start_bd _ (by omega) (by omega)).2 (Lib.hid fun w => ?_) (Lib.hid fun w => ?_) T (Lib.hid fun n hn => ?_) w
            · rw [ex]; exact rnumber a c d e _ (.inl ⟨hf, rfl⟩) w
            · have h := rdays_valid (valY a c d e) 1 1 w (Cal.valid_day _ 1 (by omega) (by omega) (by omega) (by omega))
              rw [Cal.first] at h
              exact h
            · rw [hl, ro] at hn
              exact tail_near (by omega) (by omega) hn
          · rw [if_neg hf] at ro
            refine none_of ro (rread_bad_pos s h0 a hc (u8_ne ha) hs (by omega) (Lib.hid fun w => ?_) w)
            rw [ex]; exact rnumber a c d e _ (.inr ⟨hf, rfl⟩) w
        | [], _, sl, _ => exact absurd sl (by simp at *; omega)
        | [_], _, sl, _ => exact absurd sl (by simp at *; omega)
        | [_, _], _, sl, _ => exact absurd sl (by simp at *; omega)
end Go.Proofs.YtmffagkgkbdkjaaDoor
