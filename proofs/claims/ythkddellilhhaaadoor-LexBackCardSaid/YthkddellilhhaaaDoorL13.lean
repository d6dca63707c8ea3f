/- lex: right tokens' texts are read back; what is read is right. -/
import Derived.Test.YthkddellilhhaaaDoorL12
import Derived.Test.YthkddellilhhaaaDoorP3
namespace Go.Proofs.YthkddellilhhaaaDoor
set_option linter.unusedVariables false
set_option linter.unusedSimpArgs false
open Go.ChangeShapes Go.WideShapes Go.ChangeAt Go.RowKit
theorem pum_app (M : Nat) : ∀ (l r : List UInt8) (acc v : Nat), Lib.parseUintM M acc l = .ok v → Lib.parseUintM M acc (l ++ r) = Lib.parseUintM M v r
  | [], r, acc, v, h => by
    unfold Lib.parseUintM at h
    injection h with h
    subst h; rfl
  | c :: l, r, acc, v, h => by
    rw [List.cons_append]
    rw [Lib.parseUintM] at h ⊢
    split at h
    · rename_i h1
      rw [if_pos h1]
      split at h
      · cases h
      · rename_i h2
        rw [if_neg h2]
        split at h
        · cases h
        · rename_i h3
          rw [if_neg h3]
          exact pum_app M l r _ v h
    · cases h
theorem pum_dec : ∀ (k u : Nat), u ≤ k → u ≤ 18446744073709551615 → Lib.parseUintM 18446744073709551615 0 (Lib.decDigits u) = .ok u
  | k, u, hk, h => by
    rw [Lib.decDigits]
    split
    · rename_i h1
      rw [Lib.parseUintM]
      have e : (UInt8.ofNat (48 + u)).toNat = 48 + u := by simp; omega
      rw [e, if_pos (by omega), if_neg (by omega), if_neg (by omega), Lib.parseUintM]
      congr 1; omega
    · rename_i h1
      match k, hk with
      | k + 1, hk =>
        rw [pum_app _ _ _ _ _ (pum_dec k (u / 10) (by omega) (by omega)), Lib.parseUintM]
        have e : (UInt8.ofNat (48 + u % 10)).toNat = 48 + u % 10 := by simp; omega
        rw [e, if_pos (by omega), if_neg (by omega), if_neg (by omega), Lib.parseUintM]
        congr 1; omega
      | 0, hk => omega
theorem dec_dgt : ∀ (k u : Nat), u ≤ k → ∀ c ∈ Lib.decDigits u, Lx.dgt c = true
  | k, u, hk, c, hc => by
    rw [Lib.decDigits] at hc
    have one : ∀ d, d < 10 → Lx.dgt (UInt8.ofNat (48 + d)) = true := fun d hd => by
      unfold Lx.dgt
      have e : (UInt8.ofNat (48 + d)).toNat = 48 + d := by simp; omega
      rw [e]; simp; omega
    split at hc
    · rw [List.mem_singleton.1 hc]; exact one u (by omega)
    · rcases List.mem_append.1 hc with h | h
      · match k, hk with
        | k + 1, hk => exact dec_dgt k (u / 10) (by omega) c h
        | 0, hk => omega
      · rw [List.mem_singleton.1 h]; exact one (u % 10) (by omega)
theorem dec_head : ∀ (k u : Nat), u ≤ k → ∃ c r, Lib.decDigits u = c :: r ∧ (c = 48 → u = 0)
  | k, u, hk => by
    rw [Lib.decDigits]
    split
    · refine ⟨_, [], rfl, fun h => ?_⟩
      have := congrArg UInt8.toNat h
      have e : (UInt8.ofNat (48 + u)).toNat = 48 + u := by simp; omega
      rw [e] at this
      have : 48 + u = 48 := this
      omega
    · match k, hk with
      | k + 1, hk =>
        obtain ⟨c, r, e, h⟩ := dec_head k (u / 10) (by omega)
        exact ⟨c, r ++ _, by rw [e]; rfl, fun z => by have := h z; omega⟩
      | 0, hk => omega
theorem dec_zero : Lib.decDigits 0 = [48] := by rw [Lib.decDigits, dif_pos (by omega)]; rfl
theorem pb_itoa (n : Int) (h0 : -9223372036854775808 ≤ n) (h1 : n ≤ 9223372036854775807) : Lib.parseIntB 64 (Lib.itoa n) = .ok n := by
  unfold Lib.itoa
  split
  · obtain ⟨c, r, e, _⟩ := dec_head n.natAbs n.natAbs (Nat.le_refl _)
    have hp := pum_dec n.natAbs n.natAbs (Nat.le_refl _) (by omega)
    unfold Lib.parseIntB
    dsimp only
    rw [if_pos (.inr rfl)]
    unfold Lib.parseUintB
    rw [if_neg (by rw [e]; simp), show (2 ^ 64 - 1 : Nat) = 18446744073709551615 from rfl, hp]
    dsimp only
    rw [if_neg (by intro h; exact h.1 rfl), if_neg (by intro h; have := h.2; omega), if_pos (show UInt8.toNat 45 = 45 from rfl)]
    congr 1; omega
  · obtain ⟨c, r, e, _⟩ := dec_head n.toNat n.toNat (Nat.le_refl _)
    have hp := pum_dec n.toNat n.toNat (Nat.le_refl _) (by omega)
    have hd := dec_dgt n.toNat n.toNat (Nat.le_refl _) c (by rw [e]; simp)
    have hd := of_decide_eq_true hd
    unfold Lib.parseIntB
    rw [e]
    dsimp only
    rw [if_neg (by omega), ← e]
    unfold Lib.parseUintB
    rw [if_neg (by rw [e]; simp), show (2 ^ 64 - 1 : Nat) = 18446744073709551615 from rfl, hp]
    dsimp only
    rw [if_neg (by intro h; have := h.2; omega), if_neg (by intro h; omega), if_neg (by omega)]
    congr 1; omega
theorem pi_itoa (n : Int) (h0 : -9223372036854775808 ≤ n) (h1 : n ≤ 9223372036854775807) : piOf (Lib.itoa n) = some n := by
  unfold piOf
  rw [pb_itoa n h0 h1]
theorem pi_range {l : List UInt8} {v : Int} (h : piOf l = some v) : -9223372036854775808 ≤ v ∧ v ≤ 9223372036854775807 := by
  unfold piOf at h
  split at h
  · rename_i u hu
    injection h with h
    subst h
    unfold Lib.parseIntB at hu
    split at hu
    · cases hu
    · dsimp only at hu
      split at hu
      · cases hu
      · cases hu
      · split at hu
        · cases hu
        · split at hu
          · cases hu
          · rename_i h1 h2
            injection hu with hu
            split at hu
            · rename_i h3
              have : ¬ (2 ^ (64 - 1) < _) := fun z => h2 ⟨h3, z⟩
              omega
            · rename_i h3
              have : ¬ (2 ^ (64 - 1) ≤ _) := fun z => h1 ⟨h3, z⟩
              omega
  · cases h
theorem one_text (t : Lx.Tk) (h : rightT t = true) (h0 : -9223372036854775808 ≤ t.2.2) (h1 : t.2.2 ≤ 9223372036854775807) : Lx.One readOf piOf (textT t) t := by
  obtain ⟨a1, a2, a3⟩ := t
  have hr := of_decide_eq_true h
  dsimp only at hr h0 h1
  rcases hr with ⟨rfl, rfl, hn⟩ | ⟨rfl, rfl⟩ | ⟨rfl, rfl, hd⟩ | ⟨rfl, rfl, hl, hm⟩
  · have e : textT (1, a2, 0) = a2 := rfl
    rw [e]
    have hn2 := of_decide_eq_true hn
    cases a2 with
    | nil => simp at hn2
    | cons c r =>
      have hc : Lx.ltr c = true := Lx.run_in Lx.ltr (c :: r) c (by rw [hn2.2.2.2, List.take_of_length_le (Nat.le_refl _)]; simp)
      have hd : Lx.dgt c = false := hn2.2.2.1 c rfl
      have hc := of_decide_eq_true hc
      have hd := of_decide_eq_false hd
      have hm : Lx.mrk c = false := by unfold Lx.mrk; rw [decide_eq_false_iff_not]; omega
      have n64 : ¬ c = 64 := fun z => by rw [z] at hc; revert hc; decide
      have n45 : ¬ (c = 45 ∨ Lx.dgt c = true) := by
        rintro (z | z)
        · rw [z] at hc; revert hc; decide
        · have := of_decide_eq_true z; omega
      refine ⟨?_, c, r, rfl, by unfold Lx.blk; rw [decide_eq_false_iff_not]; omega⟩
      unfold Lx.first
      dsimp only
      rw [hm, if_neg (by decide), if_neg n64, if_neg n45, hn2.2.2.2, List.take_of_length_le (Nat.le_refl _), if_pos hn]
  · have e : textT (2, [], a3) = Lib.itoa a3 := rfl
    rw [e]
    have hpi := pi_itoa a3 h0 h1
    obtain ⟨c, r, hcr, hz⟩ := dec_head a3.natAbs a3.natAbs (Nat.le_refl _)
    have hall := dec_dgt a3.natAbs a3.natAbs (Nat.le_refl _)
    have hrun := Lx.run_all Lx.dgt _ hall
    have hcd := of_decide_eq_true (hall c (by rw [hcr]; simp))
    have hnum : Lx.num piOf (Lib.itoa a3) = some (a3, (Lib.itoa a3).length) := by
      have hb : Lx.body (Lib.itoa a3) = Lib.decDigits a3.natAbs := by
        unfold Lib.itoa
        split
        · rfl
        · rw [show a3.toNat = a3.natAbs by omega, hcr]
          unfold Lx.body
          dsimp only
          rw [if_neg (fun z => by rw [z] at hcd; revert hcd; decide)]
      have hlen := Lx.body_len (Lib.itoa a3)
      unfold Lx.num
      dsimp only
      rw [hb] at hlen ⊢
      rw [hrun, show (Lib.itoa a3).length - (Lib.decDigits a3.natAbs).length + (Lib.decDigits a3.natAbs).length = (Lib.itoa a3).length by omega, List.take_of_length_le (Nat.le_refl _), hpi]
      dsimp only
      rw [if_neg]
      rintro (⟨z1, z2⟩ | ⟨x, z1, _⟩)
      · rw [hcr] at z1
        have hc48 : c = 48 := by simpa using z1
        have ha := hz hc48
        have : a3 = 0 := by omega
        rw [this] at z2
        unfold Lib.itoa at z2
        rw [if_neg (by decide)] at z2
        have : (Lib.decDigits (0 : Int).toNat).length = 1 := by rw [show (0 : Int).toNat = 0 from rfl, dec_zero]; rfl
        omega
      · rw [List.getElem?_eq_none (Nat.le_refl _)] at z1; cases z1
    obtain ⟨x, y, hxy, hx⟩ : ∃ x y, Lib.itoa a3 = x :: y ∧ (x.toNat = 45 ∨ (48 ≤ x.toNat ∧ x.toNat ≤ 57)) := by
      unfold Lib.itoa
      split
      · exact ⟨45, _, rfl, .inl rfl⟩
      · rw [show a3.toNat = a3.natAbs by omega, hcr]; exact ⟨c, r, rfl, .inr hcd⟩
    rw [hxy] at hnum ⊢
    have hm : Lx.mrk x = false := by unfold Lx.mrk; rw [decide_eq_false_iff_not]; omega
    refine ⟨?_, x, y, rfl, by unfold Lx.blk; rw [decide_eq_false_iff_not]; omega⟩
    unfold Lx.first
    dsimp only
    rw [hm, if_neg (by decide), if_neg (fun z => by rw [z] at hx; revert hx; decide), if_pos (by
      rcases hx with hx | hx
      · left; exact UInt8.toNat_inj.1 hx
      · right; exact decide_eq_true hx), hnum]
  · have e : textT (3, [], a3) = 64 :: dtx a3 := rfl
    rw [e]
    obtain ⟨_, hrd, hdl, _⟩ := dtx_spec a3 hd
    refine ⟨?_, 64, dtx a3, rfl, by decide⟩
    unfold Lx.first
    dsimp only
    rw [if_neg (by decide), if_pos rfl, Lx.run_all Lx.dlt _ hdl, List.take_of_length_le (Nat.le_refl _), hrd]
    simp; omega
  · obtain ⟨c, rfl⟩ : ∃ c, a2 = [c] := by
      match a2, hl with
      | [c], _ => exact ⟨c, rfl⟩
    have e : textT (4, [c], 0) = [c] := rfl
    rw [e]
    have hm2 : Lx.mrk c = true := by simpa using hm
    have hm3 := of_decide_eq_true hm2
    refine ⟨?_, c, [], rfl, by unfold Lx.blk; rw [decide_eq_false_iff_not]; omega⟩
    unfold Lx.first
    dsimp only
    rw [if_pos hm2]; rfl
theorem joinL_eq : ∀ (x : List (List UInt8)), Lx.joinL x = Lib.join x [32]
  | [] => rfl
  | [x] => by rw [Lib.join_one]; rfl
  | x :: y :: r => by
    show x ++ 32 :: Lx.joinL (y :: r) = _
    rw [joinL_eq (y :: r), Lib.join_cons, Lib.join_cons]
    simp [Lib.joinTail]
/-- The words of the text of tokens are those that are right. -/
theorem words_text (l : List Lx.Tk) (hb : TkB l) : Lx.words readOf piOf (joinT l) 0 [] = (l.filter rightT, -1) := by
  have h := Lx.words_join readOf piOf ((l.filter rightT).map (fun t => (textT t, t))) (fun x hx => by
    obtain ⟨t, ht, rfl⟩ := List.mem_map.1 hx
    obtain ⟨h1, h2⟩ := List.mem_filter.1 ht
    exact one_text t h2 (hb t h1).2.2.1 (hb t h1).2.2.2) 0 []
  rw [List.map_map, List.map_map] at h
  unfold joinT texts
  rw [← joinL_eq]
  have e1 : ((fun x : List UInt8 × Lx.Tk => x.1) ∘ fun t => (textT t, t)) = textT := rfl
  have e2 : ((fun x : List UInt8 × Lx.Tk => x.2) ∘ fun t => (textT t, t)) = id := rfl
  rw [e1, e2, List.map_id] at h
  simpa using h
end Go.Proofs.YthkddellilhhaaaDoor
