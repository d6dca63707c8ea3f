/- DateTexts: the law, put together. -/
import Derived.Test.YtmffagkgkbdkjaaDoorTextsW
import Derived.Laws.Strings
namespace Go.Proofs.YtmffagkgkbdkjaaDoor
set_option linter.unusedVariables false
set_option linter.unusedSimpArgs false
open Go.ChangeShapes Go.WideShapes Go.ChangeAt Go.RowKit

theorem cr_at (x : ByteArray) : CR x (toldN (readOf x.data.toList)) (toldE (readOf x.data.toList)) := Lib.hid fun w hT => read_any x w hT
theorem notThat (x : ByteArray) (n : Int) (h : readOf x.data.toList ≠ some n) : NotThat x n (toldN (readOf x.data.toList)) (toldE (readOf x.data.toList)) := by
  refine ⟨cr_at x, ?_⟩
  cases hr : readOf x.data.toList with
  | none => exact .inl rfl
  | some v =>
    refine .inr ⟨rfl, ?_⟩
    rw [hr] at h
    show (v == n) = false
    simpa using fun e : v = n => h (by rw [e])

theorem texts_no (n a c : Int) (T : CT n ⟨#[]⟩ 30) (w : World) (hT : Tabs w) :
    Calls Tryd.prog 6 #[.int .i64 n, .int .u8 a, .int .u8 c] w fun e w' => e = .returned (.bool true) ∧ Below w.heap.size w w' := by
  have HT := Lib.hid hT
  clear hT
  go_enter Tryd.func6, Tryd.ntmps6
  go_wp2_with (first
    | (go_at_call 19; (with_reducible refine (T.out _ HT.out).mono ?_); rintro e w1 ⟨rfl, b1⟩; have H1 := Lib.hid (HT.out.keep b1))
    | (go_at_call 8; (with_reducible refine (awake _ H1.out).mono ?_); rintro e w7 ⟨rfl, b7⟩))
  go_returns
  exact ⟨rfl, b1.trans (b7.mono b1.size)⟩

theorem texts_law (n a c : Int) (w : World) (hT : Tabs w) (n0 : -9223372036854775808 ≤ n) (n1 : n ≤ 9223372036854775807) (a1 : 0 ≤ a) (a2 : a ≤ 255) (c1 : 0 ≤ c) (c2 : c ≤ 255) :
    Calls Tryd.prog 6 #[.int .i64 n, .int .u8 a, .int .u8 c] w fun e w' => e = .returned (.bool true) ∧ Below w.heap.size w w' := by
  by_cases r : -4371587 ≤ n ∧ n < 2932897
  · obtain ⟨y, m, d, v, rfl⟩ := Cal.some_date n r.1 r.2
    have mo := v.month
    have lb := Cal.len_bd y m mo.1 mo.2
    have d1 := v.d1
    have d2 := v.d2
    obtain ⟨m', rfl⟩ := Int.eq_ofNat_of_zero_le (show 0 ≤ m by omega)
    obtain ⟨d', rfl⟩ := Int.eq_ofNat_of_zero_le (show 0 ≤ d by omega)
    obtain ⟨cb, hcb⟩ : ∃ cb : UInt8, c = (cb.toNat : Int) := ⟨UInt8.ofNat c.toNat, by rw [UInt8.toNat_ofNat']; omega⟩
    subst hcb
    have hm : m' < 100 := by omega
    have hd : d' < 100 := by omega
    have T := text_is y m' d' v hm hd
    have L := txt_len y m' d'
    have q1 := fun k hk => t1 v hm hd k hk cb
    have q2 := fun k hk => t2 v hm hd k hk
    have q3 := fun k hk => t3 v hm hd k hk cb
    have q4 := t4 v hm hd
    have q5 := t5 v hm hd
    generalize txt y m' d' = l at *
    generalize Cal.num y m' d' = n at *
    have hl : (ByteArray.mk l.toArray).data.toList = l := by simp
    have hsz : (ByteArray.mk l.toArray).size = l.length := by simp [ByteArray.size]
    have he0 : (ByteArray.mk l.toArray).toList.isEmpty = false := by
      rw [ByteArray.toList_eq, hl]
      cases l with
      | nil => simp at L
      | cons _ _ => rfl
    generalize hs : ByteArray.mk l.toArray = s at *
    have up : ∀ k, (s.extract 0 k).data.toList = l.take k := by
      intro k
      rw [ByteArray.data_extract, Array.toList_extract, hl]
      simp
    have dr : ∀ N a, s.size = N → (s.extract a N).data.toList = l.drop a := by
      intro N a h
      have hlen : N = l.length := by omega
      rw [ByteArray.data_extract, Array.toList_extract, hl, hlen]
      simp
      exact List.take_of_length_le (by simp)
    have eX : ∀ (N k : Nat), s.size = N → (s.extract 0 k ++ s.extract (k + 1) N).data.toList = l.take k ++ l.drop (k + 1) := by
      intro N k h
      rw [ByteArray.data_append, Array.toList_append, up, dr N _ h]
    have eO : ∀ (N k : Nat), s.size = N → (s.extract 0 k ++ ⟨#[cb]⟩ ++ s.extract (k + 1) N).data.toList = l.take k ++ cb :: l.drop (k + 1) := by
      intro N k h
      rw [ByteArray.data_append, Array.toList_append, ByteArray.data_append, Array.toList_append, up, dr N _ h, List.append_assoc]
      rfl
    have eI : ∀ (N k : Nat), s.size = N → (s.extract 0 k ++ ⟨#[cb]⟩ ++ s.extract k N).data.toList = l.take k ++ cb :: l.drop k := by
      intro N k h
      rw [ByteArray.data_append, Array.toList_append, ByteArray.data_append, Array.toList_append, up, dr N _ h, List.append_assoc]
      rfl
    have eA : (s ++ ⟨#[45]⟩).data.toList = l ++ [45] := by rw [ByteArray.data_append, Array.toList_append, hl]
    have eB : (⟨#[32]⟩ ++ s).data.toList = 32 :: l := by rw [ByteArray.data_append, Array.toList_append, hl]; rfl
    have C2 := notThat (s ++ ⟨#[45]⟩) n (by rw [eA]; exact q4)
    have C3 := notThat (⟨#[32]⟩ ++ s) n (by rw [eB]; exact q5)
    rcases L with ⟨-, L⟩ | ⟨-, L⟩
    · obtain ⟨k, ek⟩ := Int.eq_ofNat_of_zero_le (show 0 ≤ a % 10 by omega)
      have hk : k < l.length := by omega
      have hN : s.size = 10 := by omega
      have C0 := notThat (s.extract 0 k ++ s.extract (k + 1) 10) n (by rw [eX 10 k hN]; exact q2 k hk)
      have C1 := notThat (s.extract 0 k ++ ⟨#[cb]⟩ ++ s.extract k 10) n (by rw [eI 10 k hN]; exact q3 k hk)
      cases hq : ((s.extract 0 k ++ ⟨#[cb]⟩ ++ s.extract (k + 1) 10).toList == s.toList)
      · have O := notThat (s.extract 0 k ++ ⟨#[cb]⟩ ++ s.extract (k + 1) 10) n (by
          rw [eO 10 k hN]
          intro h
          have e := q1 k hk h
          rw [ByteArray.toList_eq, ByteArray.toList_eq, eO 10 k hN, hl, e] at hq
          simp at hq)
        obtain ⟨R, W⟩ := O
        rcases W with W | ⟨W, W'⟩
        · exact texts_10_none n a cb k s T hN he0 w hT a1 a2 ek _ _ hq W R _ _ _ _ _ _ _ _ C0 C1 C2 C3
        · rw [W] at R
          exact texts_10_other n a cb k s T hN he0 w hT a1 a2 ek _ hq W' R _ _ _ _ _ _ _ _ C0 C1 C2 C3
      · exact texts_10_same n a cb k s T hN he0 w hT a1 a2 ek _ _ hq (cr_at _) _ _ _ _ _ _ _ _ C0 C1 C2 C3
    · obtain ⟨k, ek⟩ := Int.eq_ofNat_of_zero_le (show 0 ≤ a % 11 by omega)
      have hk : k < l.length := by omega
      have hN : s.size = 11 := by omega
      have C0 := notThat (s.extract 0 k ++ s.extract (k + 1) 11) n (by rw [eX 11 k hN]; exact q2 k hk)
      have C1 := notThat (s.extract 0 k ++ ⟨#[cb]⟩ ++ s.extract k 11) n (by rw [eI 11 k hN]; exact q3 k hk)
      cases hq : ((s.extract 0 k ++ ⟨#[cb]⟩ ++ s.extract (k + 1) 11).toList == s.toList)
      · have O := notThat (s.extract 0 k ++ ⟨#[cb]⟩ ++ s.extract (k + 1) 11) n (by
          rw [eO 11 k hN]
          intro h
          have e := q1 k hk h
          rw [ByteArray.toList_eq, ByteArray.toList_eq, eO 11 k hN, hl, e] at hq
          simp at hq)
        obtain ⟨R, W⟩ := O
        rcases W with W | ⟨W, W'⟩
        · exact texts_11_none n a cb k s T hN he0 w hT a1 a2 ek _ _ hq W R _ _ _ _ _ _ _ _ C0 C1 C2 C3
        · rw [W] at R
          exact texts_11_other n a cb k s T hN he0 w hT a1 a2 ek _ hq W' R _ _ _ _ _ _ _ _ C0 C1 C2 C3
      · exact texts_11_same n a cb k s T hN he0 w hT a1 a2 ek _ _ hq (cr_at _) _ _ _ _ _ _ _ _ C0 C1 C2 C3
  · rcases bk1 n with T | ⟨s, y, k, z, u, d, T, R, N, F, W⟩
    · exact texts_no n a c T w hT
    · exact texts_no n a c (Lib.hid fun w hT => (text_no n w r).mono fun e w' ⟨he, hw⟩ => ⟨he, hw ▸ Below.refl _ _⟩) w hT
end Go.Proofs.YtmffagkgkbdkjaaDoor
