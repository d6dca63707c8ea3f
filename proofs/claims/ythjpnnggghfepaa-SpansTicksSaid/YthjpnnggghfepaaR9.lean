/- Contracts: the document's Right. -/
import Derived.Test.YthjpnnggghfepaaX1
import Derived.Test.YthjpnnggghfepaaR7
namespace Go.Proofs.Ythjpnnggghfepaa
set_option linter.unusedVariables false
set_option linter.unusedSimpArgs false
open Go.ChangeShapes Go.WideShapes Go.ChangeAt Go.RowKit
theorem SpAt.cutAt {w : World} {ao : Option Addr} {n c : Nat} {l : List Sp} (h : SpAt w ao n c l) (m : Nat) (hm : m ≤ n) : SpAt w ao m c (l.take m) := by
  have hl := h.len
  refine ⟨by rw [List.length_take]; omega, Nat.le_trans hm h.le, h.top, fun e => ⟨by have := (h.bare e).1; omega, (h.bare e).2⟩, fun h0 => ?_⟩
  obtain ⟨b, p, e, hc⟩ := h.here (by omega)
  refine ⟨b, p, e, fun i hi => ?_⟩
  rw [List.length_take] at hi
  have := hc i (by omega)
  rwa [List.getElem_take]
theorem mem_before {l : List Sp} {k : Nat} (hk : k < l.length) (h : Good (l.take (k + 1))) {x : Int} (hx : l[k].2 < x) : mem (l.take (k + 1)) (x - 1) ↔ l[k].2 = x - 1 := by
  have hg := h
  rw [List.take_succ_eq_append_getElem hk] at hg ⊢
  have q := (rt_snoc _ _ _).1 hg
  constructor
  · intro z
    have := mem_nxt hg z
    rw [nxt_snoc] at this
    omega
  · intro e
    exact (mem_append _ _ _).2 (.inr ((mem_cons _ _ _).2 (.inl ⟨by have := q.2.2.1; omega, by omega⟩)))
set_option maxHeartbeats 4000000 in
theorem refRight_any (ao : Option Addr) (n c : Nat) (l : List Sp) (w : World) (hl : SpAt w ao n c l) (r : Bool) (hr : r = true ↔ Good l) :
    Calls Try.prog 15 #[.slice ao n c] w fun e w' => e = .returned (.bool r) ∧ Below w.heap.size w w' := by
  have HL := Lib.hid hl
  have HR := Lib.hid hr
  have LN := Lib.hid hl.len
  have HLC := Lib.hid hl.le
  have hmx : n ≤ 9223372036854775807 := Nat.le_trans hl.le hl.top
  clear hl hr
  go_enter Try.func15, Try.ntmps15
  go_wp2
  go_loopw [3] (fun ii wr => ∃ i : Nat, i ≤ n ∧ ii = .int .i64 i ∧ Hid (Good (l.take i)) ∧ Hid (Below w.heap.size w wr)) (fun ii _ => n - (intOf ii).toNat)
  case atStart => exact ⟨0, Nat.zero_le _, rfl, Lib.hid trivial, Lib.hid (Below.refl _ _)⟩
  case round =>
    obtain ⟨i, hi, rfl, HI, HW⟩ := hrel
    by_cases ilt : i < n
    · obtain ⟨b, p, rfl, hc⟩ := HL.out.here (by omega)
      have hil : i < l.length := by rw [LN.out]; exact ilt
      have c1 := cell_keep (hc i hil).1 HW.out
      have c2 := cell_keep (hc i hil).2 HW.out
      have HST := Lib.hid (good_step hil HI.out)
      have HNO : Hid (¬ Good (l.take (i + 1)) → false = r) := Lib.hid (fun h => by
        cases r
        · rfl
        · have := HR.out.1 rfl
          rw [← List.take_append_drop (i + 1) l] at this
          exact absurd (rt_prefix this) h)
      have i0' : (0 : Int) ≤ (i : Int) := by omega
      have i1' : (i : Int) < (n : Int) := by omega
      have HP : Hid (∀ k, k + 1 = i → ∃ z : Int, (∀ W, Below wr.heap.size wr W → W.cell? ⟨b, p + k * 2 + 1, none⟩ = some (.int .i64 z)) ∧ (-1099511627776 ≤ z ∧ z ≤ 1099511627776) ∧ (∀ (hk : k < l.length), l[k].2 = z) ∧ ∀ x : Int, z < x → (mem (l.take i) (x - 1) ↔ z = x - 1)) := Lib.hid (fun k hk => by
        have hkl : k < l.length := by omega
        have q := good_at HI.out k (by rw [List.length_take]; omega)
        rw [List.getElem_take] at q
        refine ⟨l[k].2, fun W hW => cell_keep (cell_keep (hc k hkl).2 HW.out) hW, by omega, fun _ => rfl, fun x hx => ?_⟩
        subst hk
        exact mem_before hkl HI.out hx)
      clear hc
      obtain ⟨s, hs⟩ : ∃ z, l[i] = z := ⟨_, rfl⟩
      rw [hs] at c1 c2 HST
      have HIL := Lib.hid hil
      clear hs hil
      obtain ⟨x, y⟩ := s
      simp only at c1 c2
      by_cases h1 : y < x
      · have HF := Lib.hid (HNO.out (fun g => by have := (HST.out.1 g).1; simp only at this; omega))
        clear HP HST HNO HR HI
        go_upto_region 4 with fail
        go_quiet (fail)
        go_wp2
        go_returns
        exact ⟨ret_bool HF.out, below_drewN HW.out _⟩
      · by_cases h2 : x < -1099511627776
        · have HF := Lib.hid (HNO.out (fun g => by have := (HST.out.1 g).2.1; simp only at this; omega))
          clear HP HST HNO HR HI
          go_upto_region 4 with fail
          go_quiet (fail)
          go_wp2
          go_returns
          exact ⟨ret_bool HF.out, below_drewN HW.out _⟩
        · by_cases h3 : 1099511627776 < y
          · have HF := Lib.hid (HNO.out (fun g => by have := (HST.out.1 g).2.2.1; simp only at this; omega))
            clear HP HST HNO HR HI
            go_upto_region 4 with fail
            go_quiet (fail)
            go_wp2
            go_returns
            exact ⟨ret_bool HF.out, below_drewN HW.out _⟩
          · by_cases h4 : i = 0
            · subst h4
              simp only [Nat.zero_mul, Nat.add_zero] at c1 c2
              have HOK : Hid (Good (l.take (0 + 1))) := Lib.hid (HST.out.2 ⟨by simp only; omega, by simp only; omega, by simp only; omega, fun j hj e => by omega⟩)
              clear HP HST HNO HR HI
              go_upto_region 4 with fail
              go_quiet (fail)
              go_upto_region 6 with fail
              go_quiet (fail)
              go_wp2
              go_roundw
              case rel => exact ⟨0 + 1, by omega, by go_num, HOK, Lib.hid (below_drewN HW.out _)⟩
              case measure => simp [intOf]; omega
            · obtain ⟨k, hk⟩ : ∃ k, k + 1 = i := ⟨i - 1, by omega⟩
              obtain ⟨z, hz, ⟨hz1, hz2⟩, hz3, hz4⟩ := HP.out k hk
              have d1 := hz _ (Below.refl _ wr)
              have HZ3 := Lib.hid hz3
              have HZ4 := Lib.hid hz4
              have HKI := Lib.hid hk
              have HCI : Hid (i ≤ n ∧ n ≤ c) := Lib.hid ⟨hi, HLC.out⟩
              have k0 : (0 : Int) ≤ (k : Int) := by omega
              have k1 : (k : Int) < (n : Int) := by omega
              have k2 : k < n := by omega
              have k3 : (0 : Int) < (i : Int) := by omega
              have k4 : 0 < i := by omega
              have i2' : (i : Int) ≤ (c : Int) := by have := HLC.out; omega
              clear hz hz3 hz4 HP
              by_cases h5 : x ≤ z
              · have HF := Lib.hid (HNO.out (fun g => by
                  have q := (HST.out.1 g).2.2.2 k (by have := HIL.out; have := HKI.out; omega) HKI.out
                  rw [HZ3.out] at q; simp only at q; omega))
                have e1 : IntKind.i64.wrap ((i : Int) - 1) = (k : Int) := by rw [IntWalk.i64_in _ (by omega)]; omega
                clear hk
                clear HST HNO HR HI
                go_upto_region 4 with fail
                go_quiet (fail)
                go_upto_region 6 with fail
                go_quiet (fail)
                go_wp2
                go_returns
                exact ⟨ret_bool HF.out, below_drewN HW.out _⟩
              · by_cases h6 : z = x - 1
                · have HF := Lib.hid (HNO.out (fun g => by
                    have q := (HST.out.1 g).2.2.2 k (by have := HIL.out; have := HKI.out; omega) HKI.out
                    rw [HZ3.out] at q; simp only at q; omega))
                  have T := Lib.hid (fun W (hW : Below wr.heap.size wr W) => rhas_is (some ⟨b, p, none⟩) i c (l.take i) (x - 1) W (((HL.out.keep HW.out).keep hW).cutAt i hi) true (by simp only [true_iff]; exact (HZ4.out x (by omega)).2 h6))
                  have HH6 := Lib.hid h6
                  have e1 : IntKind.i64.wrap ((i : Int) - 1) = (k : Int) := by rw [IntWalk.i64_in _ (by omega)]; omega
                  have e2 : IntKind.i64.wrap (x - 1) = x - 1 := IntWalk.i64_in _ (by omega)
                  clear hk h6
                  clear HST HNO HR HI
                  go_upto_region 4 with fail
                  go_quiet (fail)
                  obtain ⟨V, hV⟩ : ∃ V, wr.drewN nq = V := ⟨_, rfl⟩
                  have HBV : Hid (Below wr.heap.size wr V) := Lib.hid (by rw [← hV]; exact below_drewN (Below.refl _ wr) nq)
                  have c1' := cell_keep c1 HBV.out
                  have d1' := cell_keep d1 HBV.out
                  rw [hV]
                  clear hV c1 c2 d1
                  have T2 := Lib.hid (fun j => T.out (V.drewN j) (below_drewN HBV.out j))
                  go_upto_region 6 with fail
                  go_quiet ((first | (go_at_call 22; with_reducible exact Calls.quiet_of_same (T2.out _)) | fail))
                  clear e1 e2
                  go_wp2
                  go_returns
                  exact ⟨ret_bool HF.out, below_drewN (HW.out.trans (HBV.out.mono HW.out.size)) _⟩
                · have HOK : Hid (Good (l.take (i + 1))) := Lib.hid (HST.out.2 ⟨by simp only; omega, by simp only; omega, by simp only; omega, fun j hj e => by
                    have hkk := HKI.out
                    obtain rfl : j = k := by omega
                    rw [HZ3.out]; simp only; omega⟩)
                  have T := Lib.hid (fun W (hW : Below wr.heap.size wr W) => rhas_is (some ⟨b, p, none⟩) i c (l.take i) (x - 1) W (((HL.out.keep HW.out).keep hW).cutAt i hi) false (by simp only [Bool.false_eq_true, false_iff]; exact fun q => h6 ((HZ4.out x (by omega)).1 q)))
                  have e1 : IntKind.i64.wrap ((i : Int) - 1) = (k : Int) := by rw [IntWalk.i64_in _ (by omega)]; omega
                  have e2 : IntKind.i64.wrap (x - 1) = x - 1 := IntWalk.i64_in _ (by omega)
                  clear hk h6
                  clear HST HNO HR HI
                  go_upto_region 4 with fail
                  go_quiet (fail)
                  obtain ⟨V, hV⟩ : ∃ V, wr.drewN nq = V := ⟨_, rfl⟩
                  have HBV : Hid (Below wr.heap.size wr V) := Lib.hid (by rw [← hV]; exact below_drewN (Below.refl _ wr) nq)
                  have c1' := cell_keep c1 HBV.out
                  have d1' := cell_keep d1 HBV.out
                  rw [hV]
                  clear hV c1 c2 d1
                  have T2 := Lib.hid (fun j => T.out (V.drewN j) (below_drewN HBV.out j))
                  go_upto_region 6 with fail
                  go_quiet ((first | (go_at_call 22; with_reducible exact Calls.quiet_of_same (T2.out _)) | fail))
                  clear e1 e2
                  go_wp2
                  go_roundw
                  case rel => exact ⟨i + 1, by omega, by go_num, HOK, Lib.hid (below_drewN (HW.out.trans (HBV.out.mono HW.out.size)) _)⟩
                  case measure => simp [intOf]; omega
    · obtain rfl : i = n := by omega
      have HF : Hid (true = r) := Lib.hid (by
        have h := HI.out
        rw [List.take_of_length_le (by rw [LN.out]; exact Nat.le_refl _)] at h
        exact (HR.out.2 h).symm)
      go_wp2
      go_returns
      exact ⟨ret_bool HF.out, HW.out⟩
end Go.Proofs.Ythjpnnggghfepaa
