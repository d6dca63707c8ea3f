/- lex: dates' texts; which tokens are right; their texts. -/
import Derived.Test.YthkddellilhhaaaGreatDoorL8
import Derived.Test.YthkddellilhhaaaGreatDoorTextsM
namespace Go.Proofs.YthkddellilhhaaaGreatDoor
set_option linter.unusedVariables false
set_option linter.unusedSimpArgs false
open Go.ChangeShapes Go.WideShapes Go.ChangeAt Go.RowKit
open Cal (dg)
theorem dg_toNat (k : Nat) (h : k < 10) : (dg k).toNat = 48 + k := by unfold dg; simp; omega
theorem dg_dlt (k : Nat) (h : k < 10) : Lx.dlt (dg k) = true := by
  have := dg_toNat k h
  unfold Lx.dlt Lx.ltr
  rw [decide_eq_true_iff, decide_eq_true_iff]; omega
theorem dash_dlt : Lx.dlt 45 = true := by decide
theorem date_text (n : Int) (h : -4371587 ≤ n ∧ n < 2932897) : ∃ X : List UInt8, CT n ⟨X.toArray⟩ 0 ∧ readOf X = some n ∧ (∀ c ∈ X, Lx.dlt c = true) ∧ X.length ≤ 20 ∧ (∃ (y : Int) (m d : Nat), Cal.Valid y m d ∧ m < 100 ∧ d < 100 ∧ n = Cal.num y m d ∧ X = txt y m d) := by
  obtain ⟨y, m, d, v, rfl⟩ := Cal.some_date n h.1 h.2
  obtain ⟨m1, m2⟩ := v.month
  obtain ⟨mm, rfl⟩ := Int.eq_ofNat_of_zero_le (show 0 ≤ m by omega)
  have d1 := v.d1
  have d2 : d ≤ 31 := by
    have := v.d2
    have := (Cal.len_bd y mm m1 m2).2
    omega
  obtain ⟨dd, rfl⟩ := Int.eq_ofNat_of_zero_le (show 0 ≤ d by omega)
  have y1 := v.y1
  have y2 := v.y2
  refine ⟨txt y mm dd, text_is y mm dd v (by omega) (by omega), txt_read y mm dd v (by omega) (by omega), ?_, ?_, ⟨y, mm, dd, v, by omega, by omega, rfl, rfl⟩⟩
  · have key : ∀ z : Nat, z < 10000 → ∀ c ∈ yl z (mdl mm dd), Lx.dlt c = true := fun z hz c hc => by
      unfold yl mdl at hc
      simp only [List.mem_cons, List.not_mem_nil, or_false] at hc
      rcases hc with rfl | rfl | rfl | rfl | rfl | rfl | rfl | rfl | rfl | rfl
      all_goals first | exact dash_dlt | exact dg_dlt _ (by omega)
    unfold txt
    split
    · exact key _ (by omega)
    · intro c hc
      rcases List.mem_cons.1 hc with rfl | hc
      · exact dash_dlt
      · exact key _ (by omega) c hc
  · unfold txt yl mdl; split <;> simp
/-- A date's text. -/
noncomputable def dtx (n : Int) : List UInt8 := if h : -4371587 ≤ n ∧ n < 2932897 then Classical.choose (date_text n h) else []
def dok (n : Int) : Bool := decide (-4371587 ≤ n ∧ n < 2932897)
theorem dtx_spec (n : Int) (h : dok n = true) : CT n ⟨(dtx n).toArray⟩ 0 ∧ readOf (dtx n) = some n ∧ (∀ c ∈ dtx n, Lx.dlt c = true) ∧ (dtx n).length ≤ 20 := by
  have h := of_decide_eq_true h
  unfold dtx
  rw [dif_pos h]
  have q := Classical.choose_spec (date_text n h)
  exact ⟨q.1, q.2.1, q.2.2.1, q.2.2.2.1⟩
theorem dtx_txt (n : Int) (h : dok n = true) : ∃ (y : Int) (m d : Nat), Cal.Valid y m d ∧ m < 100 ∧ d < 100 ∧ n = Cal.num y m d ∧ dtx n = txt y m d := by
  have h := of_decide_eq_true h
  unfold dtx
  rw [dif_pos h]
  exact (Classical.choose_spec (date_text n h)).2.2.2.2
theorem dtext_ok (n : Int) (w : World) (hT : Tx w) (h : dok n = true) : Calls Tryz.prog 18 #[.int .i64 n] w fun e w' => e = .returned (.tuple #[.string ⟨(dtx n).toArray⟩, .int .i64 0]) ∧ Below w.heap.size w w' := (dtx_spec n h).1.out w hT.tabs
theorem dtext_no (n : Int) (w : World) (h : dok n = false) : Calls Tryz.prog 18 #[.int .i64 n] w fun e w' => e = .returned (.tuple #[.string ⟨#[]⟩, .int .i64 30]) ∧ Below w.heap.size w w' :=
  (text_no n w (of_decide_eq_false h)).mono fun e w' ⟨he, hw⟩ => ⟨he, hw ▸ Below.refl _ _⟩
/-- Is a token right? -/
def rightT (t : Lx.Tk) : Bool := decide ((t.1 = 1 ∧ t.2.2 = 0 ∧ Lx.nameOk t.2.1 = true) ∨ (t.1 = 2 ∧ t.2.1 = []) ∨ (t.1 = 3 ∧ t.2.1 = [] ∧ dok t.2.2 = true) ∨ (t.1 = 4 ∧ t.2.2 = 0 ∧ t.2.1.length = 1 ∧ t.2.1.all Lx.mrk = true))
end Go.Proofs.YthkddellilhhaaaGreatDoor
