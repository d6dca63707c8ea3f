/- Contracts of the document's own answer for layer 4: Read. -/
import Derived.Test.YtmffagkgkbdkjaaDoorR8
namespace Go.Proofs.YtmffagkgkbdkjaaDoor
set_option linter.unusedVariables false
set_option linter.unusedSimpArgs false
open Go.ChangeShapes Go.WideShapes Go.ChangeAt Go.RowKit
open Cal (dg)

theorem texts_zero (n : Int) (h : ¬ (-4371587 ≤ n ∧ n < 2932897)) (w : World) : Calls Tryd.prog 20 #[.int .i64 n] w fun e w' => e = .returned (.slice none 0 0) ∧ w = w' := by
  have D := Lib.hid (fun w => rdate_err n w h)
  clear h
  go_enter Tryd.func20, Tryd.ntmps20
  go_wp2_with (go_at_call 30; (with_reducible refine (D.out _).mono ?_); rintro e w' ⟨rfl, rfl⟩)
  go_returns
  exact ⟨rfl, rfl⟩
theorem row_form {w : World} {B n : Nat} {v : Value} {xs : List Value} (h : w.ownsRow B 9 1 v n xs) (hn : 0 < n) : ∃ g cap, v = .slice (some ⟨g, 0, none⟩) n cap ∧ n ≤ cap ∧ cap ≤ maxLen ∧ ∀ j u, xs[j]? = some u → w.cell? ⟨g, j, none⟩ = some u := by
  have hc := h
  rcases h.2 with ⟨_, h0⟩ | ⟨g, cap, cur, rfl, h1, h2, h3, h4, h5⟩
  · omega
  · refine ⟨g, cap, rfl, h3, h4, fun j u hu => ?_⟩
    have := hc.cells (g := g) rfl j u hu
    have hadd : (⟨g, 0, none⟩ : Addr).add j = ⟨g, j, none⟩ := by unfold Addr.add; split <;> simp_all
    rw [hadd] at this
    exact this
/-- Where a day has texts, they lie in a row. -/
abbrev TextsAt (n : Int) (L : List ByteArray) : Prop := Hid (∀ w, Calls Tryd.prog 20 #[.int .i64 n] w fun e w' => ∃ g cap, e = .returned (.slice (some ⟨g, 0, none⟩) L.length cap) ∧ L.length ≤ cap ∧ cap ≤ maxLen ∧ Hid (∀ (j : Nat) (hj : j < L.length), w'.cell? ⟨g, j, none⟩ = some (.string L[j])) ∧ Below w.heap.size w w')
abbrev TextsNone (n : Int) : Prop := Hid (∀ w, Calls Tryd.prog 20 #[.int .i64 n] w fun e w' => e = .returned (.slice none 0 0) ∧ w = w')
theorem texts_cells {n : Int} {L : List ByteArray} (h : TextsIs n L) (hL : 0 < L.length) : TextsAt n L := Lib.hid fun w =>
  (h.call w).mono fun e w' ⟨v, he, ho, hb⟩ => by
    obtain ⟨g, cap, rfl, h1, h2, h3⟩ := row_form ho hL
    refine ⟨g, cap, he, h1, h2, Lib.hid fun j hj => h3 j _ ?_, hb⟩
    simp [hj]
theorem texts_any (n : Int) : (TextsNone n ∧ ∀ x, readOf x ≠ some n) ∨ ∃ L, TextsAt n L ∧ 0 < L.length ∧ ∀ x : ByteArray, x ∈ L ↔ readOf x.data.toList = some n := by
  by_cases r : -4371587 ≤ n ∧ n < 2932897
  · obtain ⟨y, m, d, v, rfl⟩ := Cal.some_date n r.1 r.2
    have mo := v.month
    have lb := Cal.len_bd y m mo.1 mo.2
    have d1 := v.d1
    have d2 := v.d2
    obtain ⟨m', rfl⟩ := Int.eq_ofNat_of_zero_le (show 0 ≤ m by omega)
    obtain ⟨d', rfl⟩ := Int.eq_ofNat_of_zero_le (show 0 ≤ d by omega)
    obtain ⟨r, h⟩ := texts_some y m' d' v (by omega) (by omega)
    exact .inr ⟨_, texts_cells h (by simp), by simp, h.says⟩
  · exact .inl ⟨Lib.hid (texts_zero n r), says_zero r⟩

/-- What Read is to answer. -/
abbrev Tells (s : ByteArray) (p q : Int) : Prop := Hid ((∀ n, readOf s.data.toList = some n → n = p ∧ 0 = q) ∧ (readOf s.data.toList = none → 0 = p ∧ 30 = q))
theorem tells_of (s : ByteArray) : Tells s (toldN (readOf s.data.toList)) (toldE (readOf s.data.toList)) := by
  refine Lib.hid ⟨fun n h => ?_, fun h => ?_⟩ <;> rw [h] <;> exact ⟨rfl, rfl⟩
/-- Where the day of a text lies. -/
abbrev Near (s : ByteArray) (b : Int) : Prop := Hid (∀ n, readOf s.data.toList = some n → b - 7 ≤ n ∧ n < b + 373)
theorem ba_ne {x s : ByteArray} (h : (x.toList == s.toList) = true) : x = s := by
  have := eq_of_beq h
  rw [ByteArray.toList_eq, ByteArray.toList_eq] at this
  apply ByteArray.ext
  exact Array.toList_inj.1 this
theorem nat_i64 {a b : Int} (h : a = b) : Value.int .i64 a = .int .i64 b := by rw [h]

set_option maxRecDepth 100000 in
set_option maxHeartbeats 4000000 in
theorem rread_pos (s : ByteArray) (hs : s.size ≤ 40) (hs8 : (8 : Int) ≤ (s.size : Int)) (h0 : 0 < s.size) (c : UInt8) (hc : s[0] = c) (hc' : ((c.toNat : Int) == 45) = false) (v b p q : Int) (v0 : 0 ≤ v) (v1 : v ≤ 9999) (b0 : -4371587 ≤ b) (b1 : b ≤ 2932897)
    (N : Hid (∀ w, Calls Tryd.prog 42 #[.string (s.extract 0 4)] w fun e w' => e = .returned (.int .i64 v) ∧ w = w'))
    (D : Hid (∀ w, Calls Tryd.prog 35 #[.int .i64 (v), .int .i64 1, .int .i64 1] w fun e w' => e = .returned (.tuple #[.int .i64 b, .int .i64 0]) ∧ w = w'))
    (T : Tells s p q) (R : Near s b) (w : World) :
    Calls Tryd.prog 22 #[.string s] w fun e w' => e = .returned (.tuple #[.int .i64 p, .int .i64 q]) ∧ Below w.heap.size w w' := by
  have t1 : ¬ ((s.size : Int) < 8) := by omega
  have t2 : (0 : Int) < (s.size : Int) := by omega
  have t3 : ¬ v < 0 := by omega
  have t4 : (4 : Int) ≤ (s.size : Int) := by omega
  have t5 : 4 ≤ s.size := by omega
  have hs' : (s.size : Int) ≤ 40 := by omega
  clear hs hs8
  go_enter Tryd.func22, Tryd.ntmps22
  go_wp2_with (first
    | (go_at_call 42; (with_reducible refine (N.out _).mono ?_); rintro e w' ⟨rfl, rfl⟩)
    | (go_at_call 35; (with_reducible refine (D.out _).mono ?_); rintro e w' ⟨rfl, rfl⟩))
  go_loopw [8] (fun nn wr => ∃ k : Int, nn = .int .i64 k ∧ b - 7 ≤ k ∧ k ≤ b + 373 ∧ Hid (∀ m, b - 7 ≤ m → m < k → readOf s.data.toList ≠ some m) ∧ Hid (Below w.heap.size w wr)) (fun nn _ => (b + 373 - intOf nn).toNat)
  case atStart => exact ⟨_, rfl, by omega, by omega, Lib.hid (fun m h1 h2 => absurd h1 (by omega)), Lib.hid (Below.refl _ _)⟩
  case round =>
    obtain ⟨k, rfl, k1, k2, HM, HB⟩ := hrel
    by_cases kl : k < b + 373
    · rcases texts_any k with ⟨C, hno⟩ | ⟨L, C, hL, hsays⟩
      · have HN := Lib.hid (hno s.data.toList)
        clear hno
        go_wp2_with (go_at_call 20; (with_reducible refine (C.out _).mono ?_); rintro e w1 ⟨rfl, rfl⟩)
        obtain ⟨wo, rfl⟩ : ∃ wo : World, wo = wr := ⟨_, rfl⟩
        go_loopw [10] (fun ii wi => wi = wo ∧ ii = .int .i64 0) (fun ii _ => 0)
        case atStart => exact ⟨rfl, rfl⟩
        case round =>
          obtain ⟨rfl, rfl⟩ := hrel
          go_wp2
          go_roundw
          case rel => exact ⟨k + 1, rfl, by omega, by omega, Lib.hid (fun m h1 h2 => by
            rcases (show m < k ∨ m = k by omega) with h | h
            · exact HM.out m h1 h
            · subst h; exact HN.out), HB⟩
          case measure => simp [intOf]; omega
      · have HS := Lib.hid (hsays s)
        have hL' : (0 : Int) < (L.length : Int) := by omega
        clear hsays
        go_wp2_with (go_at_call 20; (with_reducible refine (C.out _).mono ?_); rintro e w1 ⟨g, cap, rfl, hcap1, hcap2, HC, hb⟩; have HB1 := Lib.hid (HB.out.trans (hb.mono HB.out.size)); clear hb)
        unfold maxLen at hcap2
        go_loopw [10] (fun ii wi => wi = w1 ∧ ∃ j : Nat, ii = .int .i64 j ∧ j ≤ L.length ∧ Hid (∀ (t : Nat) (ht : t < j) (hl : t < L.length), L[t] ≠ s)) (fun ii _ => L.length - (intOf ii).toNat)
        case atStart => exact ⟨rfl, 0, rfl, Nat.zero_le _, Lib.hid (fun t ht => absurd ht (Nat.not_lt_zero _))⟩
        case round =>
          obtain ⟨rfl, j, rfl, j1, HJ⟩ := hrel
          by_cases jl : j < L.length
          · have cj := HC.out j jl
            have HX := Lib.hid (List.getElem_mem jl)
            obtain ⟨x, hx⟩ : ∃ x, L[j] = x := ⟨_, rfl⟩
            have HE := Lib.hid hx
            rw [hx] at cj
            clear hx
            cases hq : (x.toList == s.toList)
            · go_wp2
              go_roundw
              case rel => exact ⟨trivial, j + 1, by go_num, by omega, Lib.hid (fun t ht hl => by
                rcases (show t < j ∨ t = j by omega) with h | h
                · exact HJ.out t h hl
                · subst h
                  intro e
                  rw [HE.out] at e
                  rw [e] at hq
                  simp at hq)⟩
              case measure => simp [intOf]; omega
            · have HR := Lib.hid (show readOf s.data.toList = some k by
                refine HS.out.1 ?_
                rw [← ba_ne hq, ← HE.out]
                exact HX.out)
              go_wp2
              go_returns
              exact ⟨ret_int2 ((T.out.1 k HR.out).1) ((T.out.1 k HR.out).2), HB1.out⟩
          · have jj : j = L.length := by omega
            have HN := Lib.hid (show readOf s.data.toList ≠ some k by
              intro h
              obtain ⟨t, ht, e⟩ := List.getElem_of_mem (HS.out.2 h)
              exact HJ.out t (by omega) ht e)
            clear jj HJ
            go_wp2
            go_roundw
            case rel => exact ⟨k + 1, rfl, by omega, by omega, Lib.hid (fun m h1 h2 => by
              rcases (show m < k ∨ m = k by omega) with h | h
              · exact HM.out m h1 h
              · subst h; exact HN.out), HB1⟩
            case measure => simp [intOf]; omega
    · have HZ := Lib.hid (show readOf s.data.toList = none by
        cases h : readOf s.data.toList with
        | none => rfl
        | some m =>
          have n := R.out m h
          exact absurd h (HM.out m n.1 (by omega)))
      go_wp2
      go_returns
      exact ⟨ret_int2 (T.out.2 HZ.out).1 (T.out.2 HZ.out).2, HB.out⟩
end Go.Proofs.YtmffagkgkbdkjaaDoor
