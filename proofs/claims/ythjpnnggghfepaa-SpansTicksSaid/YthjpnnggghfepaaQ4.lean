/- SpansMake: the walk. -/
import Derived.Test.YthjpnnggghfepaaA1
import Derived.Test.YthjpnnggghfepaaA2
import Derived.Test.YthjpnnggghfepaaP2
namespace Go.Proofs.Ythjpnnggghfepaa
set_option linter.unusedVariables false
set_option linter.unusedSimpArgs false
open Go.ChangeShapes Go.WideShapes Go.ChangeAt Go.RowKit
/-- Make and the document's Make tell the same. -/
theorem made_same {B B' : Nat} {w w' : World} {l : List Sp} {v v' : Value} {k k' : Int} (h : Made B w l v k) (h' : MadeR B' w' l v' k') :
    k = k' ∧ ∃ r ao n c ao' c', v = .slice ao n c ∧ v' = .slice ao' n c' ∧ SpAt w ao n c r ∧ SpAt w' ao' n c' r := by
  have nn : ∀ {l : List Sp}, (∃ s ∈ l, s.2 < s.1) → (∀ s ∈ l, s.1 ≤ s.2) → False := fun ⟨s, h1, h2⟩ h => by have := h s h1; omega
  have tt : ∀ {l : List Sp}, (∃ s ∈ l, ¬ TkSp s) → (∀ s ∈ l, TkSp s) → False := fun ⟨s, h1, h2⟩ h => h2 (h s h1)
  rcases h with ⟨a1, rfl, rfl⟩ | ⟨a1, a2, rfl, rfl⟩ | ⟨a1, a2, rfl, r, a3, a4, a5, a6⟩
  · rcases h' with ⟨b1, rfl, rfl⟩ | ⟨b1, b2, rfl, rfl⟩ | ⟨b1, b2, rfl, r', b3, b4, b5, b6⟩
    · exact ⟨rfl, [], none, 0, 0, none, 0, rfl, rfl, SpAt.nil _, SpAt.nil _⟩
    · exact (nn a1 b1).elim
    · exact (nn a1 b1).elim
  · rcases h' with ⟨b1, rfl, rfl⟩ | ⟨b1, b2, rfl, rfl⟩ | ⟨b1, b2, rfl, r', b3, b4, b5, b6⟩
    · exact (nn b1 a1).elim
    · exact ⟨rfl, [], none, 0, 0, none, 0, rfl, rfl, SpAt.nil _, SpAt.nil _⟩
    · exact (tt a2 b2).elim
  · rcases h' with ⟨b1, rfl, rfl⟩ | ⟨b1, b2, rfl, rfl⟩ | ⟨b1, b2, rfl, r', b3, b4, b5, b6⟩
    · exact (nn b1 a1).elim
    · exact (tt b2 a2).elim
    · obtain rfl : r = r' := rt_unique a3 b3 (fun t => (a4 t).trans (b4 t).symm)
      obtain ⟨ao, c, rfl, h1⟩ := own_sp rfl a6
      obtain ⟨ao', c', rfl, h2⟩ := own_sp rfl b6
      exact ⟨rfl, r, ao, _, c, ao', c', rfl, rfl, h1, h2⟩
theorem anew_sp (ao : Option Addr) (n c : Nat) (l : List Sp) (hn : n ≤ 1000000) (w : World) (hl : SpAt w ao n c l) :
    Calls Try.prog 10 #[.slice ao n c] w fun e w' => ∃ ro rc, e = .returned (.slice ro n rc) ∧ Hid (SpAt w' ro n rc l) ∧ Below w.heap.size w w' :=
  (anew_any ao n c l hn w hl).mono fun e w' ⟨v, e1, h1, h2⟩ => by
    obtain ⟨ro, rc, rfl, h3⟩ := own_sp hl.len h1
    exact ⟨ro, rc, e1, Lib.hid h3, h2⟩
set_option maxHeartbeats 2000000 in
theorem make_law (A0 : Option Addr) (m d : Nat) (l : List Sp) (w : World) (h1 : SpAt w A0 m d l) :
    Calls Try.prog 3 #[.slice A0 m d] w fun e w' => e = .returned (.bool true) ∧ Below w.heap.size w w' := by
  have hmx : m ≤ 9223372036854775807 := Nat.le_trans h1.le h1.top
  by_cases hm : m ≤ 60
  · have ht : ¬ (60 : Int) < (m : Int) := by omega
    have HT : Hid (Ws w w [(A0, m, d, l)]) := Lib.hid ⟨Below.refl _ _, fun x hx => by
      rw [List.mem_singleton.1 hx]; exact h1⟩
    obtain ⟨g, hg⟩ : ∃ g : Bool, Hid (g = true ↔ Good l) := by classical exact ⟨decide _, Lib.hid decide_eq_true_iff⟩
    have tg : (g == g) = true := by simp
    clear h1
    go_enter Try.func3, Try.ntmps3
    go_wp2_with fail
    (with_reducible refine (anew_sp A0 m d l (by omega) _ (HT.out.at A0 m d l (List.Mem.head _))).mono ?_)
    rintro e z ⟨io, ic, rfl, HX, q⟩
    have HT := Lib.hid (HT.out.add q HX.out)
    clear q HX
    go_wp2_with fail
    (with_reducible refine (make_all io m ic l (by omega) _ (HT.out.at io m ic l (List.Mem.head _))).mono ?_)
    rintro e z1 ⟨v, k, rfl, q, hmade⟩
    have HM := Lib.hid hmade
    have HT := Lib.hid (HT.out.keep q)
    clear q hmade
    go_wp2_with fail
    (with_reducible refine (refMake_all A0 m d l (by omega) _ (HT.out.at A0 m d l (List.Mem.tail _ (List.Mem.head _)))).mono ?_)
    rintro e z2 ⟨v', k', rfl, q, hmade⟩
    obtain ⟨rfl, r, ao, n, c, ao', c', rfl, rfl, s1, s2⟩ := made_same HM.out hmade
    have HT := Lib.hid ((HT.out.add q (s1.keep q)).add (Below.refl _ _) s2)
    have tk : (k == k) = true := by simp
    clear q hmade HM s1 s2
    go_wp2_with fail
    (with_reducible refine (alike_any ao ao' n c n c' r r _ (HT.out.at ao n c r (List.Mem.tail _ (List.Mem.head _))) (HT.out.at ao' n c' r (List.Mem.head _)) true (by simp)).mono ?_)
    rintro e z3 ⟨rfl, q⟩
    have HT := Lib.hid (HT.out.keep q)
    clear q
    go_wp2_with fail
    (with_reducible refine (right_any io m ic l _ (HT.out.at io m ic l (List.Mem.tail _ (List.Mem.tail _ (List.Mem.head _)))) g hg.out).mono ?_)
    rintro e z4 ⟨rfl, q⟩
    have HT := Lib.hid (HT.out.keep q)
    clear q
    go_wp2_with fail
    (with_reducible refine (refRight_any A0 m d l _ (HT.out.at A0 m d l (List.Mem.tail _ (List.Mem.tail _ (List.Mem.tail _ (List.Mem.head _))))) g hg.out).mono ?_)
    rintro e z5 ⟨rfl, q⟩
    have HT := Lib.hid (HT.out.keep q)
    clear q
    go_wp2_with fail
    (with_reducible refine (alike_any io A0 m ic m d l l _ (HT.out.at io m ic l (List.Mem.tail _ (List.Mem.tail _ (List.Mem.head _)))) (HT.out.at A0 m d l (List.Mem.tail _ (List.Mem.tail _ (List.Mem.tail _ (List.Mem.head _))))) true (by simp)).mono ?_)
    rintro e z6 ⟨rfl, q⟩
    have HT := Lib.hid (HT.out.keep q)
    clear q
    go_wp2_with fail
    (with_reducible refine (awake_any _).mono ?_)
    rintro e z7 ⟨rfl, q⟩
    have HT := Lib.hid (HT.out.keep q)
    clear q
    go_wp2
    go_returns
    exact ⟨rfl, HT.out.bw⟩
  · have ht : (60 : Int) < (m : Int) := by omega
    clear h1
    go_enter Try.func3, Try.ntmps3
    go_wp2_with fail
    (with_reducible refine (awake_any _).mono ?_)
    rintro e z7 ⟨rfl, q⟩
    go_wp2
    go_returns
    exact ⟨rfl, q⟩
end Go.Proofs.Ythjpnnggghfepaa
