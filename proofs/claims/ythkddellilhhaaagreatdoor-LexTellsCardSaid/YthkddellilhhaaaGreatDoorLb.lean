/- L13, L14, L15 in one. -/
import Derived.Test.YthkddellilhhaaaGreatDoorL12
import Derived.Test.YthkddellilhhaaaGreatDoorP3
namespace Go.Proofs.YthkddellilhhaaaGreatDoor
set_option linter.unusedVariables false
set_option linter.unusedSimpArgs false
open Go.ChangeShapes Go.WideShapes Go.ChangeAt Go.RowKit
theorem pum_app (M : Nat) : ∀ (l r : List UInt8) (acc v : Nat), Lib.parseUintM M acc l = .ok v → Lib.parseUintM M acc (l ++ r) = Lib.parseUintM M v r
  | [], r, acc, v, h => by
    unfold Lib.parseUintM at h
    injection h with h
    subst h; rfl
  | c :: l, r, acc, v, h => by
    rw [List.cons_append]
    rw [Lib.parseUintM] at h ⊢
    split at h
    · rename_i h1
      rw [if_pos h1]
      split at h
      · cases h
      · rename_i h2
        rw [if_neg h2]
        split at h
        · cases h
        · rename_i h3
          rw [if_neg h3]
          exact pum_app M l r _ v h
    · cases h
theorem pum_dec : ∀ (k u : Nat), u ≤ k → u ≤ 18446744073709551615 → Lib.parseUintM 18446744073709551615 0 (Lib.decDigits u) = .ok u
  | k, u, hk, h => by
    rw [Lib.decDigits]
    split
    · rename_i h1
      rw [Lib.parseUintM]
      have e : (UInt8.ofNat (48 + u)).toNat = 48 + u := by simp; omega
      rw [e, if_pos (by omega), if_neg (by omega), if_neg (by omega), Lib.parseUintM]
      congr 1; omega
    · rename_i h1
      match k, hk with
      | k + 1, hk =>
        rw [pum_app _ _ _ _ _ (pum_dec k (u / 10) (by omega) (by omega)), Lib.parseUintM]
        have e : (UInt8.ofNat (48 + u % 10)).toNat = 48 + u % 10 := by simp; omega
        rw [e, if_pos (by omega), if_neg (by omega), if_neg (by omega), Lib.parseUintM]
        congr 1; omega
      | 0, hk => omega
theorem dec_dgt : ∀ (k u : Nat), u ≤ k → ∀ c ∈ Lib.decDigits u, Lx.dgt c = true
  | k, u, hk, c, hc => by
    rw [Lib.decDigits] at hc
    have one : ∀ d, d < 10 → Lx.dgt (UInt8.ofNat (48 + d)) = true := fun d hd => by
      unfold Lx.dgt
      have e : (UInt8.ofNat (48 + d)).toNat = 48 + d := by simp; omega
      rw [e]; simp; omega
    split at hc
    · rw [List.mem_singleton.1 hc]; exact one u (by omega)
    · rcases List.mem_append.1 hc with h | h
      · match k, hk with
        | k + 1, hk => exact dec_dgt k (u / 10) (by omega) c h
        | 0, hk => omega
      · rw [List.mem_singleton.1 h]; exact one (u % 10) (by omega)
theorem dec_head : ∀ (k u : Nat), u ≤ k → ∃ c r, Lib.decDigits u = c :: r ∧ (c = 48 → u = 0)
  | k, u, hk => by
    rw [Lib.decDigits]
    split
    · refine ⟨_, [], rfl, fun h => ?_⟩
      have := congrArg UInt8.toNat h
      have e : (UInt8.ofNat (48 + u)).toNat = 48 + u := by simp; omega
      rw [e] at this
      have : 48 + u = 48 := this
      omega
    · match k, hk with
      | k + 1, hk =>
        obtain ⟨c, r, e, h⟩ := dec_head k (u / 10) (by omega)
        exact ⟨c, r ++ _, by rw [e]; rfl, fun z => by have := h z; omega⟩
      | 0, hk => omega
theorem dec_zero : Lib.decDigits 0 = [48] := by rw [Lib.decDigits, dif_pos (by omega)]; rfl
theorem pb_itoa (n : Int) (h0 : -9223372036854775808 ≤ n) (h1 : n ≤ 9223372036854775807) : Lib.parseIntB 64 (Lib.itoa n) = .ok n := by
  unfold Lib.itoa
  split
  · obtain ⟨c, r, e, _⟩ := dec_head n.natAbs n.natAbs (Nat.le_refl _)
    have hp := pum_dec n.natAbs n.natAbs (Nat.le_refl _) (by omega)
    unfold Lib.parseIntB
    dsimp only
    rw [if_pos (.inr rfl)]
    unfold Lib.parseUintB
    rw [if_neg (by rw [e]; simp), show (2 ^ 64 - 1 : Nat) = 18446744073709551615 from rfl, hp]
    dsimp only
    rw [if_neg (by intro h; exact h.1 rfl), if_neg (by intro h; have := h.2; omega), if_pos (show UInt8.toNat 45 = 45 from rfl)]
    congr 1; omega
  · obtain ⟨c, r, e, _⟩ := dec_head n.toNat n.toNat (Nat.le_refl _)
    have hp := pum_dec n.toNat n.toNat (Nat.le_refl _) (by omega)
    have hd := dec_dgt n.toNat n.toNat (Nat.le_refl _) c (by rw [e]; simp)
    have hd := of_decide_eq_true hd
    unfold Lib.parseIntB
    rw [e]
    dsimp only
    rw [if_neg (by omega), ← e]
    unfold Lib.parseUintB
    rw [if_neg (by rw [e]; simp), show (2 ^ 64 - 1 : Nat) = 18446744073709551615 from rfl, hp]
    dsimp only
    rw [if_neg (by intro h; have := h.2; omega), if_neg (by intro h; omega), if_neg (by omega)]
    congr 1; omega
theorem pi_itoa (n : Int) (h0 : -9223372036854775808 ≤ n) (h1 : n ≤ 9223372036854775807) : piOf (Lib.itoa n) = some n := by
  unfold piOf
  rw [pb_itoa n h0 h1]
theorem pi_range {l : List UInt8} {v : Int} (h : piOf l = some v) : -9223372036854775808 ≤ v ∧ v ≤ 9223372036854775807 := by
  unfold piOf at h
  split at h
  · rename_i u hu
    injection h with h
    subst h
    unfold Lib.parseIntB at hu
    split at hu
    · cases hu
    · dsimp only at hu
      split at hu
      · cases hu
      · cases hu
      · split at hu
        · cases hu
        · split at hu
          · cases hu
          · rename_i h1 h2
            injection hu with hu
            split at hu
            · rename_i h3
              have : ¬ (2 ^ (64 - 1) < _) := fun z => h2 ⟨h3, z⟩
              omega
            · rename_i h3
              have : ¬ (2 ^ (64 - 1) ≤ _) := fun z => h1 ⟨h3, z⟩
              omega
  · cases h
theorem one_text (t : Lx.Tk) (h : rightT t = true) (h0 : -9223372036854775808 ≤ t.2.2) (h1 : t.2.2 ≤ 9223372036854775807) : Lx.One readOf piOf (textT t) t := by
  obtain ⟨a1, a2, a3⟩ := t
  have hr := of_decide_eq_true h
  dsimp only at hr h0 h1
  rcases hr with ⟨rfl, rfl, hn⟩ | ⟨rfl, rfl⟩ | ⟨rfl, rfl, hd⟩ | ⟨rfl, rfl, hl, hm⟩
  · have e : textT (1, a2, 0) = a2 := rfl
    rw [e]
    have hn2 := of_decide_eq_true hn
    cases a2 with
    | nil => simp at hn2
    | cons c r =>
      have hc : Lx.ltr c = true := Lx.run_in Lx.ltr (c :: r) c (by rw [hn2.2.2.2, List.take_of_length_le (Nat.le_refl _)]; simp)
      have hd : Lx.dgt c = false := hn2.2.2.1 c rfl
      have hc := of_decide_eq_true hc
      have hd := of_decide_eq_false hd
      have hm : Lx.mrk c = false := by unfold Lx.mrk; rw [decide_eq_false_iff_not]; omega
      have n64 : ¬ c = 64 := fun z => by rw [z] at hc; revert hc; decide
      have n45 : ¬ (c = 45 ∨ Lx.dgt c = true) := by
        rintro (z | z)
        · rw [z] at hc; revert hc; decide
        · have := of_decide_eq_true z; omega
      refine ⟨?_, c, r, rfl, by unfold Lx.blk; rw [decide_eq_false_iff_not]; omega⟩
      unfold Lx.first
      dsimp only
      rw [hm, if_neg (by decide), if_neg n64, if_neg n45, hn2.2.2.2, List.take_of_length_le (Nat.le_refl _), if_pos hn]
  · have e : textT (2, [], a3) = Lib.itoa a3 := rfl
    rw [e]
    have hpi := pi_itoa a3 h0 h1
    obtain ⟨c, r, hcr, hz⟩ := dec_head a3.natAbs a3.natAbs (Nat.le_refl _)
    have hall := dec_dgt a3.natAbs a3.natAbs (Nat.le_refl _)
    have hrun := Lx.run_all Lx.dgt _ hall
    have hcd := of_decide_eq_true (hall c (by rw [hcr]; simp))
    have hnum : Lx.num piOf (Lib.itoa a3) = some (a3, (Lib.itoa a3).length) := by
      have hb : Lx.body (Lib.itoa a3) = Lib.decDigits a3.natAbs := by
        unfold Lib.itoa
        split
        · rfl
        · rw [show a3.toNat = a3.natAbs by omega, hcr]
          unfold Lx.body
          dsimp only
          rw [if_neg (fun z => by rw [z] at hcd; revert hcd; decide)]
      have hlen := Lx.body_len (Lib.itoa a3)
      unfold Lx.num
      dsimp only
      rw [hb] at hlen ⊢
      rw [hrun, show (Lib.itoa a3).length - (Lib.decDigits a3.natAbs).length + (Lib.decDigits a3.natAbs).length = (Lib.itoa a3).length by omega, List.take_of_length_le (Nat.le_refl _), hpi]
      dsimp only
      rw [if_neg]
      rintro (⟨z1, z2⟩ | ⟨x, z1, _⟩)
      · rw [hcr] at z1
        have hc48 : c = 48 := by simpa using z1
        have ha := hz hc48
        have : a3 = 0 := by omega
        rw [this] at z2
        unfold Lib.itoa at z2
        rw [if_neg (by decide)] at z2
        have : (Lib.decDigits (0 : Int).toNat).length = 1 := by rw [show (0 : Int).toNat = 0 from rfl, dec_zero]; rfl
        omega
      · rw [List.getElem?_eq_none (Nat.le_refl _)] at z1; cases z1
    obtain ⟨x, y, hxy, hx⟩ : ∃ x y, Lib.itoa a3 = x :: y ∧ (x.toNat = 45 ∨ (48 ≤ x.toNat ∧ x.toNat ≤ 57)) := by
      unfold Lib.itoa
      split
      · exact ⟨45, _, rfl, .inl rfl⟩
      · rw [show a3.toNat = a3.natAbs by omega, hcr]; exact ⟨c, r, rfl, .inr hcd⟩
    rw [hxy] at hnum ⊢
    have hm : Lx.mrk x = false := by unfold Lx.mrk; rw [decide_eq_false_iff_not]; omega
    refine ⟨?_, x, y, rfl, by unfold Lx.blk; rw [decide_eq_false_iff_not]; omega⟩
    unfold Lx.first
    dsimp only
    rw [hm, if_neg (by decide), if_neg (fun z => by rw [z] at hx; revert hx; decide), if_pos (by
      rcases hx with hx | hx
      · left; exact UInt8.toNat_inj.1 hx
      · right; exact decide_eq_true hx), hnum]
  · have e : textT (3, [], a3) = 64 :: dtx a3 := rfl
    rw [e]
    obtain ⟨_, hrd, hdl, _⟩ := dtx_spec a3 hd
    refine ⟨?_, 64, dtx a3, rfl, by decide⟩
    unfold Lx.first
    dsimp only
    rw [if_neg (by decide), if_pos rfl, Lx.run_all Lx.dlt _ hdl, List.take_of_length_le (Nat.le_refl _), hrd]
    simp; omega
  · obtain ⟨c, rfl⟩ : ∃ c, a2 = [c] := by
      match a2, hl with
      | [c], _ => exact ⟨c, rfl⟩
    have e : textT (4, [c], 0) = [c] := rfl
    rw [e]
    have hm2 : Lx.mrk c = true := by simpa using hm
    have hm3 := of_decide_eq_true hm2
    refine ⟨?_, c, [], rfl, by unfold Lx.blk; rw [decide_eq_false_iff_not]; omega⟩
    unfold Lx.first
    dsimp only
    rw [if_pos hm2]; rfl
theorem joinL_eq : ∀ (x : List (List UInt8)), Lx.joinL x = Lib.join x [32]
  | [] => rfl
  | [x] => by rw [Lib.join_one]; rfl
  | x :: y :: r => by
    show x ++ 32 :: Lx.joinL (y :: r) = _
    rw [joinL_eq (y :: r), Lib.join_cons, Lib.join_cons]
    simp [Lib.joinTail]
/-- The words of the text of tokens are those that are right. -/
theorem words_text (l : List Lx.Tk) (hb : TkB l) : Lx.words readOf piOf (joinT l) 0 [] = (l.filter rightT, -1) := by
  have h := Lx.words_join readOf piOf ((l.filter rightT).map (fun t => (textT t, t))) (fun x hx => by
    obtain ⟨t, ht, rfl⟩ := List.mem_map.1 hx
    obtain ⟨h1, h2⟩ := List.mem_filter.1 ht
    exact one_text t h2 (hb t h1).2.2.1 (hb t h1).2.2.2) 0 []
  rw [List.map_map, List.map_map] at h
  unfold joinT texts
  rw [← joinL_eq]
  have e1 : ((fun x : List UInt8 × Lx.Tk => x.1) ∘ fun t => (textT t, t)) = textT := rfl
  have e2 : ((fun x : List UInt8 × Lx.Tk => x.2) ∘ fun t => (textT t, t)) = id := rfl
  rw [e1, e2, List.map_id] at h
  simpa using h
theorem date_range {y m d n : Int} (h : onDate y m d = some n) : dok n = true := by
  unfold onDate at h
  split at h
  · rename_i v
    cases h
    exact decide_eq_true v.range
  · cases h
theorem nth_range {y k n : Int} (h : onNth y k = some n) : dok n = true := by
  obtain ⟨h1, h2, h3, h4, rfl⟩ := onNth_some h
  have a := Cal.start_mono (-9999) y h1
  have b := Cal.start_mono (y + 1) 10000 (by omega)
  have c := Cal.start_succ y
  have e1 : Cal.start (-9999) = -4371587 := by decide
  have e2 : Cal.start 10000 = 2932897 := by decide
  exact decide_eq_true (by omega)
theorem week_range {y k d n : Int} (h : onWeek y k d = some n) : dok n = true := by
  have := onWeek_some h
  exact decide_eq_true ⟨this.2.2.2.2.1, this.2.2.2.2.2.1⟩
theorem tail_range {y : Int} {t : List UInt8} {n : Int} (h : tailOf y t = some n) : dok n = true := by
  unfold tailOf at h
  split at h
  · split at h
    · exact date_range h
    · split at h
      · exact week_range h
      · cases h
  · split at h
    · exact nth_range h
    · cases h
  · cases h
theorem read_range {s : List UInt8} {n : Int} (h : readOf s = some n) : dok n = true := by
  unfold readOf restOf at h
  split at h
  · split at h
    · split at h
      · cases h
      · exact tail_range h
    · cases h
  · cases h
theorem first_right {s : List UInt8} {t : Lx.Tk} {n : Nat} (h : Lx.first readOf piOf s = some (t, n)) : rightT t = true ∧ (0 ≤ t.1 ∧ t.1 ≤ 255) ∧ t.2.1.length ≤ maxLen ∧ -9223372036854775808 ≤ t.2.2 ∧ t.2.2 ≤ 9223372036854775807 := by
  unfold Lx.first at h
  cases s with
  | nil => cases h
  | cons c r =>
    dsimp only at h
    split at h
    · rename_i hm
      cases h
      refine ⟨decide_eq_true (.inr (.inr (.inr ⟨rfl, rfl, rfl, by simpa using hm⟩))), by dsimp only; omega, by simp; unfold maxLen; omega, by dsimp only; omega, by dsimp only; omega⟩
    · split at h
      · split at h
        · rename_i d hd
          cases h
          have hr := read_range hd
          have hr2 := of_decide_eq_true hr
          refine ⟨decide_eq_true (.inr (.inr (.inl ⟨rfl, rfl, hr⟩))), by dsimp only; omega, by simp, by dsimp only; omega, by dsimp only; omega⟩
        · cases h
      · split at h
        · split at h
          · rename_i x hx
            cases h
            have hp := Lx.num_pos piOf pi_nil (show Lx.num piOf (c :: r) = some (x.1, x.2) from hx)
            have := pi_range hp.2.2
            refine ⟨decide_eq_true (.inr (.inl ⟨rfl, rfl⟩)), by dsimp only; omega, by simp, this.1, this.2⟩
          · cases h
        · split at h
          · rename_i hn
            cases h
            have hn2 := of_decide_eq_true hn
            refine ⟨decide_eq_true (.inl ⟨rfl, rfl, hn⟩), by dsimp only; omega, by dsimp only; unfold maxLen; omega, by dsimp only; omega, by dsimp only; omega⟩
          · cases h
def RightB (l : List Lx.Tk) : Prop := ∀ t ∈ l, rightT t = true ∧ (0 ≤ t.1 ∧ t.1 ≤ 255) ∧ t.2.1.length ≤ maxLen ∧ -9223372036854775808 ≤ t.2.2 ∧ t.2.2 ≤ 9223372036854775807
theorem RightB.b {l : List Lx.Tk} (h : RightB l) : TkB l := fun t ht => (h t ht).2
theorem RightB.filter {l : List Lx.Tk} (h : RightB l) : l.filter rightT = l := List.filter_eq_self.2 (fun t ht => (h t ht).1)
theorem words_right : ∀ (N : Nat) (s : List UInt8), s.length ≤ N → RightB (Lx.words readOf piOf s 0 []).1 ∧ (Lx.words readOf piOf s 0 []).1.length ≤ s.length
  | N, [], _ => by rw [Lx.words_nil]; exact ⟨fun t ht => (by cases ht), Nat.le_refl _⟩
  | 0, c :: r, h => by simp at h
  | N + 1, c :: r, h => by
    have hr : r.length ≤ N := by simpa using h
    cases hb : Lx.blk c
    · cases hf : Lx.first readOf piOf (c :: r) with
      | none => rw [Lx.words_none readOf piOf hb hf]; exact ⟨fun t ht => (by cases ht), Nat.zero_le _⟩
      | some x =>
        obtain ⟨t, n⟩ := x
        rw [Lx.words_some readOf piOf hb hf, Lx.words_shift readOf piOf N _ (by rw [List.length_drop]; omega)]
        have ih := words_right N (r.drop (n - 1)) (by rw [List.length_drop]; omega)
        split
        · refine ⟨fun u hu => ?_, ?_⟩
          · rcases List.mem_append.1 hu with hu | hu
            · simp at hu; rw [hu]; exact first_right hf
            · exact ih.1 u hu
          · have := ih.2
            rw [List.length_drop] at this
            simp; omega
        · exact ⟨fun t ht => (by cases ht), Nat.zero_le _⟩
    · rw [Lx.words_blank readOf piOf hb, Lx.words_shift readOf piOf N r hr]
      have ih := words_right N r hr
      split
      · simp; exact ⟨ih.1, by have := ih.2; omega⟩
      · exact ⟨fun t ht => (by cases ht), Nat.zero_le _⟩
def wordsF (rd pi : List UInt8 → Option Int) : Nat → List UInt8 → Nat → List Lx.Tk → List Lx.Tk × Int
  | _, [], _, acc => (acc, -1)
  | 0, _, _, acc => (acc, -1)
  | N + 1, c :: r, k, acc => if Lx.blk c = true then wordsF rd pi N r (k + 1) acc else
    match Lx.first rd pi (c :: r) with
    | none => ([], (k : Int))
    | some (t, n) => wordsF rd pi N (r.drop (n - 1)) (k + n) (acc ++ [t])
theorem words_F (rd pi : List UInt8 → Option Int) : ∀ (N : Nat) (s : List UInt8), s.length ≤ N → ∀ (k : Nat) (acc : List Lx.Tk), Lx.words rd pi s k acc = wordsF rd pi N s k acc
  | N, [], _, k, acc => by rw [Lx.words_nil]; cases N <;> rfl
  | 0, c :: r, h, _, _ => by simp at h
  | N + 1, c :: r, h, k, acc => by
    have hr : r.length ≤ N := by simpa using h
    show _ = if Lx.blk c = true then wordsF rd pi N r (k + 1) acc else
      match Lx.first rd pi (c :: r) with
      | none => ([], (k : Int))
      | some (t, n) => wordsF rd pi N (r.drop (n - 1)) (k + n) (acc ++ [t])
    cases hb : Lx.blk c
    · cases hf : Lx.first rd pi (c :: r) with
      | none => rw [Lx.words_none rd pi hb hf]; rfl
      | some x =>
        obtain ⟨t, n⟩ := x
        rw [Lx.words_some rd pi hb hf, words_F rd pi N _ (by rw [List.length_drop]; omega)]; rfl
    · rw [Lx.words_blank rd pi hb, words_F rd pi N r hr]; rfl
theorem ex1 : Lx.words readOf piOf [103, 114, 111, 117, 112, 40, 51, 44, 32, 100, 97, 121, 41] 0 [] = ([(1, [103, 114, 111, 117, 112], 0), (4, [40], 0), (2, [], 3), (4, [44], 0), (1, [100, 97, 121], 0), (4, [41], 0)], -1) := by
  rw [words_F readOf piOf 13 _ (by decide)]; decide
theorem ex2 : Lx.words readOf piOf [64, 49, 57, 55, 48, 45, 48, 49, 45, 48, 49, 32, 45, 53] 0 [] = ([(3, [], 0), (2, [], -5)], -1) := by
  rw [words_F readOf piOf 14 _ (by decide)]; decide
theorem ex3 : Lx.words readOf piOf [97, 32, 48, 53] 0 [] = ([], 2) := by rw [words_F readOf piOf 4 _ (by decide)]; decide
theorem ex4 : Lx.words readOf piOf [97, 32, 36] 0 [] = ([], 2) := by rw [words_F readOf piOf 3 _ (by decide)]; decide
theorem ex5 : Lx.words readOf piOf [51, 120] 0 [] = ([], 0) := by rw [words_F readOf piOf 2 _ (by decide)]; decide
theorem ex6 : Lx.words readOf piOf [64, 49, 57, 55, 48] 0 [] = ([], 0) := by rw [words_F readOf piOf 5 _ (by decide)]; decide
theorem ex7 : joinT [(1, [97], 0), (2, [], -1)] = [97, 32, 45, 49] := by
  have e1 : rightT (1, [97], 0) = true := by decide
  have e2 : rightT (2, [], -1) = true := by decide
  have e3 : textT (1, [97], 0) = [97] := rfl
  have e4 : textT (2, [], -1) = [45, 49] := by
    show Lib.itoa (-1) = _
    unfold Lib.itoa
    rw [if_pos (by decide), show (-1 : Int).natAbs = 1 from rfl, Lib.decDigits, dif_pos (by decide)]; rfl
  unfold joinT texts
  rw [List.filter_cons, if_pos e1, List.filter_cons, if_pos e2, List.filter_nil]
  simp only [List.map_cons, List.map_nil, e3, e4]
  rfl
end Go.Proofs.YthkddellilhhaaaGreatDoor
