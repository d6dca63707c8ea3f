/- SpansTells: the walk. -/
import Derived.Test.YthjpnnggghfepaaQ4
import Derived.Test.YthjpnnggghfepaaR2
import Derived.Deep.DeepCutAuto
namespace Go.Proofs.Ythjpnnggghfepaa
set_option linter.unusedVariables false
set_option linter.unusedSimpArgs false
open Go.ChangeShapes Go.WideShapes Go.ChangeAt Go.RowKit
theorem Fk_uni (a b : List Sp) (t : Int) : Fk 1 a b t = true ↔ mem a t ∨ mem b t := by
  unfold Fk inB; rw [if_pos rfl]; simp
theorem Fk_two (a b : List Sp) (t : Int) : Fk 2 a b t = true ↔ mem a t ∧ mem b t := by
  unfold Fk inB; rw [if_neg (by decide), if_pos rfl]; simp
theorem Fk_three (a b : List Sp) (t : Int) : Fk 3 a b t = true ↔ mem a t ∧ ¬ mem b t := by
  unfold Fk inB; rw [if_neg (by decide), if_neg (by decide)]; simp
theorem refSet_sp (k : Int) (ao bo : Option Addr) (n c m d : Nat) (a b : List Sp) (ga : Good a) (gb : Good b) (hn : n ≤ 5000) (hm : m ≤ 5000) (w : World) (ha : SpAt w ao n c a) (hb : SpAt w bo m d b) :
    Calls Try.prog 17 #[.int .i64 k, .slice ao n c, .slice bo m d] w fun e w' => ∃ ro rn rc r, e = .returned (.slice ro rn rc) ∧ Hid (Good r ∧ (∀ t, mem r t ↔ Fk k a b t = true) ∧ rn ≤ 2 * n + 2 * m ∧ SpAt w' ro rn rc r) ∧ Below w.heap.size w w' := by
  refine (refSet_any k ao bo n c m d a b hn hm (spans_good ga) (spans_good gb) w ha hb).mono ?_
  rintro e w' ⟨v, r, e1, q1, q2, q3, q4, q5⟩
  obtain ⟨ao', c', rfl, q6⟩ := own_sp rfl q4
  exact ⟨ao', _, c', r, e1, Lib.hid ⟨q1, q2, q3, q6⟩, q5⟩
theorem count_is (ao : Option Addr) (n c : Nat) (l : List Sp) (w : World) (hw : SpAt w ao n c l) (hg : Good l) (C : Int) (hC : count l = C) :
    Calls Try.prog 28 #[.slice ao n c] w fun e w' => e = .returned (.int .i64 C) ∧ Below w.heap.size w w' := by
  subst hC; exact count_any ao n c l w hw hg
theorem refCount_is (ao : Option Addr) (n c : Nat) (l : List Sp) (w : World) (hw : SpAt w ao n c l) (hg : Good l) (C : Int) (hC : count l = C) :
    Calls Try.prog 29 #[.slice ao n c] w fun e w' => e = .returned (.int .i64 C) ∧ Below w.heap.size w w' := by
  subst hC; exact refCount_any ao n c l w hw hg
/-- Move and the document's Move tell the same. -/
theorem moved_same {B B' : Nat} {w w' : World} {l : List Sp} {d : Int} {n : Nat} {v v' : Value} {k k' : Int}
    (h : ((∀ s ∈ l, okSp d s) ∧ k = 0 ∧ w.ownsRow B 35 2 v n (spCells (moved l d))) ∨ ((∃ s ∈ l, ¬ okSp d s) ∧ k = 20 ∧ v = .slice none 0 0))
    (h' : ((∀ s ∈ l, okSp d s) ∧ k' = 0 ∧ w'.ownsRow B' 35 2 v' n (spCells (moved l d))) ∨ ((∃ s ∈ l, ¬ okSp d s) ∧ k' = 20 ∧ v' = .slice none 0 0)) :
    k = k' ∧ ∃ r ao m c ao' c', v = .slice ao m c ∧ v' = .slice ao' m c' ∧ SpAt w ao m c r ∧ SpAt w' ao' m c' r := by
  rcases h with ⟨a1, rfl, a2⟩ | ⟨⟨s, hs, a1⟩, rfl, rfl⟩
  · rcases h' with ⟨b1, rfl, b2⟩ | ⟨⟨s, hs, b1⟩, _⟩
    · have e := a2.1
      rw [spCells_length] at e
      obtain ⟨ao, c, rfl, h1⟩ := own_sp (by omega) a2
      obtain ⟨ao', c', rfl, h2⟩ := own_sp (by omega) b2
      exact ⟨rfl, _, ao, _, c, ao', c', rfl, rfl, h1, h2⟩
    · exact absurd (a1 s hs) b1
  · rcases h' with ⟨b1, _⟩ | ⟨_, rfl, rfl⟩
    · exact absurd (b1 s hs) a1
    · exact ⟨rfl, [], none, 0, 0, none, 0, rfl, rfl, SpAt.nil _, SpAt.nil _⟩
set_option maxHeartbeats 4000000 in
set_option maxRecDepth 100000 in
theorem tells_law (A0 B0 : Option Addr) (m1 m2 d1 d2 : Nat) (l1 l2 : List Sp) (t by' : Int) (hb1 : -9223372036854775808 ≤ by') (hb2 : by' ≤ 9223372036854775807) (w : World) (h1 : SpAt w A0 m1 d1 l1) (h2 : SpAt w B0 m2 d2 l2) :
    Calls Try.prog 4 #[.slice A0 m1 d1, .slice B0 m2 d2, .int .i64 t, .int .i64 by'] w fun e w' => e = .returned (.bool true) ∧ Below w.heap.size w w' := by
  go_enter Try.func4, Try.ntmps4
  go_wp2_with fail
  (with_reducible refine (set_any A0 m1 d1 l1 w h1).mono ?_); rintro e w1 ⟨ao, n1, c1, a, rfl, ga, e1, s1, q1⟩
  go_wp2_with fail
  (with_reducible refine (set_any B0 m2 d2 l2 w1 (h2.keep q1)).mono ?_); rintro e w2 ⟨bo, n2, c2, b, rfl, gb, e2, s2, q2⟩
  have HT : Hid (Ws w w2 [(bo, n2, c2, b), (ao, n1, c1, a)]) := Lib.hid (Ws.add (Ws.add ⟨Below.refl _ _, fun x hx => by cases hx⟩ q1 s1) q2 s2)
  have Ga := Lib.hid ga
  have Gb := Lib.hid gb
  have Na := Lib.hid e1
  have Nb := Lib.hid e2
  clear s1 s2 q1 q2 h1 h2 ga gb e1 e2
  go_wp2_with fail
  (with_reducible refine (anew_sp ao n1 c1 a (by have := Na.out; omega) _ (HT.out.at ao n1 c1 a (List.Mem.tail _ (List.Mem.head _)))).mono ?_)
  rintro e z ⟨xo, xc, rfl, HX, q⟩
  have HT := Lib.hid (HT.out.add q HX.out)
  clear q HX
  go_wp2_with fail
  (with_reducible refine (anew_sp bo n2 c2 b (by have := Nb.out; omega) _ (HT.out.at bo n2 c2 b (List.Mem.tail _ (List.Mem.head _)))).mono ?_)
  rintro e z ⟨yo, yc, rfl, HX, q⟩
  have HT := Lib.hid (HT.out.add q HX.out)
  clear q HX
  have Gx := Ga
  have Gy := Gb
  have Nx := Na
  have Ny := Nb
  go_wp2_with fail
  (with_reducible refine (refSet_sp 2 ao bo n1 c1 n2 c2 a b Ga.out Gb.out (by have := Na.out; omega) (by have := Nb.out; omega) _ (HT.out.at ao n1 c1 a (List.Mem.tail _ (List.Mem.tail _ (List.Mem.tail _ (List.Mem.head _))))) (HT.out.at bo n2 c2 b (List.Mem.tail _ (List.Mem.tail _ (List.Mem.head _))))).mono ?_)
  rintro e z ⟨orc, nrc, crc, rc, rfl, Hrc, q⟩
  have HT := Lib.hid (HT.out.add q Hrc.out.2.2.2)
  have Grc := Lib.hid Hrc.out.1
  have Mrc := Lib.hid (fun t => (Hrc.out.2.1 t).trans (Fk_two a b t))
  clear q Hrc
  go_wp2_with fail
  (with_reducible refine (refSet_sp 3 ao bo n1 c1 n2 c2 a b Ga.out Gb.out (by have := Na.out; omega) (by have := Nb.out; omega) _ (HT.out.at ao n1 c1 a (List.Mem.tail _ (List.Mem.tail _ (List.Mem.tail _ (List.Mem.tail _ (List.Mem.head _)))))) (HT.out.at bo n2 c2 b (List.Mem.tail _ (List.Mem.tail _ (List.Mem.tail _ (List.Mem.head _)))))).mono ?_)
  rintro e z ⟨orl, nrl, crl, rl, rfl, Hrl, q⟩
  have HT := Lib.hid (HT.out.add q Hrl.out.2.2.2)
  have Grl := Lib.hid Hrl.out.1
  have Mrl := Lib.hid (fun t => (Hrl.out.2.1 t).trans (Fk_three a b t))
  clear q Hrl
  go_wp2_with fail
  (with_reducible refine (union_sp xo yo n1 xc n2 yc a b Ga.out Gb.out (by have := Na.out; omega) (by have := Nb.out; omega) _ (HT.out.at xo n1 xc a (List.Mem.tail _ (List.Mem.tail _ (List.Mem.tail _ (List.Mem.head _))))) (HT.out.at yo n2 yc b (List.Mem.tail _ (List.Mem.tail _ (List.Mem.head _))))).mono ?_)
  rintro e z ⟨ou1, nu1, cu1, u1, rfl, Hu1, q⟩
  have HT := Lib.hid (HT.out.add q Hu1.out.2.2.2)
  have Gu1 := Lib.hid Hu1.out.1
  have Mu1 := Lib.hid Hu1.out.2.1
  clear q Hu1
  go_wp2_with fail
  (with_reducible refine (refSet_sp 1 ao bo n1 c1 n2 c2 a b Ga.out Gb.out (by have := Na.out; omega) (by have := Nb.out; omega) _ (HT.out.at ao n1 c1 a (List.Mem.tail _ (List.Mem.tail _ (List.Mem.tail _ (List.Mem.tail _ (List.Mem.tail _ (List.Mem.tail _ (List.Mem.head _)))))))) (HT.out.at bo n2 c2 b (List.Mem.tail _ (List.Mem.tail _ (List.Mem.tail _ (List.Mem.tail _ (List.Mem.tail _ (List.Mem.head _)))))))).mono ?_)
  rintro e z ⟨os1, ns1, cs1, s1, rfl, Hs1, q⟩
  have HT := Lib.hid (HT.out.add q Hs1.out.2.2.2)
  have Gs1 := Lib.hid Hs1.out.1
  have Ms1 := Lib.hid (fun t => (Hs1.out.2.1 t).trans (Fk_uni a b t))
  clear q Hs1
  go_wp2_with fail
  (with_reducible refine (alike_any ou1 os1 nu1 cu1 ns1 cs1 u1 s1 _ (HT.out.at ou1 nu1 cu1 u1 (List.Mem.tail _ (List.Mem.head _))) (HT.out.at os1 ns1 cs1 s1 (List.Mem.head _)) true (by simp only [true_iff]; exact same_mem Gu1.out Gs1.out (fun t => (Mu1.out t).trans (Ms1.out t).symm))).mono ?_)
  rintro e z ⟨rfl, q⟩
  have HT := Lib.hid (HT.out.keep q); clear q
  go_wp2_with fail
  (with_reducible refine (cut_sp xo yo n1 xc n2 yc a b Ga.out Gb.out (by have := Na.out; omega) (by have := Nb.out; omega) _ (HT.out.at xo n1 xc a (List.Mem.tail _ (List.Mem.tail _ (List.Mem.tail _ (List.Mem.tail _ (List.Mem.tail _ (List.Mem.head _))))))) (HT.out.at yo n2 yc b (List.Mem.tail _ (List.Mem.tail _ (List.Mem.tail _ (List.Mem.tail _ (List.Mem.head _))))))).mono ?_)
  rintro e z ⟨ou2, nu2, cu2, u2, rfl, Hu2, q⟩
  have HT := Lib.hid (HT.out.add q Hu2.out.2.2.2)
  have Gu2 := Lib.hid Hu2.out.1
  have Mu2 := Lib.hid Hu2.out.2.1
  clear q Hu2
  go_wp2_with fail
  (with_reducible refine (alike_any ou2 orc nu2 cu2 nrc crc u2 rc _ (HT.out.at ou2 nu2 cu2 u2 (List.Mem.head _)) (HT.out.at orc nrc crc rc (List.Mem.tail _ (List.Mem.tail _ (List.Mem.tail _ (List.Mem.tail _ (List.Mem.head _)))))) true (by simp only [true_iff]; exact same_mem Gu2.out Grc.out (fun t => (Mu2.out t).trans (Mrc.out t).symm))).mono ?_)
  rintro e z ⟨rfl, q⟩
  have HT := Lib.hid (HT.out.keep q); clear q
  go_wp2_with fail
  (with_reducible refine (less_sp xo yo n1 xc n2 yc a b Ga.out Gb.out (by have := Na.out; omega) (by have := Nb.out; omega) _ (HT.out.at xo n1 xc a (List.Mem.tail _ (List.Mem.tail _ (List.Mem.tail _ (List.Mem.tail _ (List.Mem.tail _ (List.Mem.tail _ (List.Mem.head _)))))))) (HT.out.at yo n2 yc b (List.Mem.tail _ (List.Mem.tail _ (List.Mem.tail _ (List.Mem.tail _ (List.Mem.tail _ (List.Mem.head _)))))))).mono ?_)
  rintro e z ⟨ou3, nu3, cu3, u3, rfl, Hu3, q⟩
  have HT := Lib.hid (HT.out.add q Hu3.out.2.2.2)
  have Gu3 := Lib.hid Hu3.out.1
  have Mu3 := Lib.hid Hu3.out.2.1
  clear q Hu3
  go_wp2_with fail
  (with_reducible refine (alike_any ou3 orl nu3 cu3 nrl crl u3 rl _ (HT.out.at ou3 nu3 cu3 u3 (List.Mem.head _)) (HT.out.at orl nrl crl rl (List.Mem.tail _ (List.Mem.tail _ (List.Mem.tail _ (List.Mem.tail _ (List.Mem.head _)))))) true (by simp only [true_iff]; exact same_mem Gu3.out Grl.out (fun t => (Mu3.out t).trans (Mrl.out t).symm))).mono ?_)
  rintro e z ⟨rfl, q⟩
  have HT := Lib.hid (HT.out.keep q); clear q
  obtain ⟨p1, hp1⟩ : ∃ r : Bool, Hid (r = true ↔ mem a t) := by classical exact ⟨decide _, Lib.hid decide_eq_true_iff⟩
  have tp1 : (p1 != p1) = false := by simp
  go_wp2_with fail
  (with_reducible refine (has_any xo n1 xc a t _ (HT.out.at xo n1 xc a (List.Mem.tail _ (List.Mem.tail _ (List.Mem.tail _ (List.Mem.tail _ (List.Mem.tail _ (List.Mem.tail _ (List.Mem.tail _ (List.Mem.head _))))))))) Ga.out (by have := Na.out; omega) p1 hp1.out).mono ?_)
  rintro e z ⟨rfl, q⟩
  have HT := Lib.hid (HT.out.keep q); clear q
  go_wp2_with fail
  (with_reducible refine (rhas_any ao n1 c1 a t _ (HT.out.at ao n1 c1 a (List.Mem.tail _ (List.Mem.tail _ (List.Mem.tail _ (List.Mem.tail _ (List.Mem.tail _ (List.Mem.tail _ (List.Mem.tail _ (List.Mem.tail _ (List.Mem.tail _ (List.Mem.head _))))))))))) p1 hp1.out).mono ?_)
  rintro e z ⟨rfl, rfl⟩
  obtain ⟨p2, hp2⟩ : ∃ r : Bool, Hid (r = true ↔ ∀ t, mem a t → mem b t) := by classical exact ⟨decide _, Lib.hid decide_eq_true_iff⟩
  have tp2 : (p2 != p2) = false := by simp
  have el : ((nrl : Int) == 0) = p2 := by
    have hl := (HT.out.at orl nrl crl rl (List.Mem.tail _ (List.Mem.tail _ (List.Mem.tail _ (List.Mem.tail _ (List.Mem.head _)))))).len
    rw [Bool.eq_iff_iff, hp2.out]
    constructor
    · intro h t ha
      have h0 : rl = [] := List.eq_nil_of_length_eq_zero (by simp at h; omega)
      exact Classical.byContradiction (fun hb => mem_nil t (by rw [← h0]; exact (Mrl.out t).2 ⟨ha, hb⟩))
    · intro h
      have h0 : rl = [] := same_mem Grl.out trivial (fun t => (Mrl.out t).trans ⟨fun q => absurd (h t q.1) q.2, fun q => absurd q (mem_nil t)⟩)
      have : nrl = 0 := by rw [← hl, h0]; rfl
      simp [this]
  go_wp2_with fail
  (with_reducible refine (within_any xo yo n1 xc n2 yc a b _ (HT.out.at xo n1 xc a (List.Mem.tail _ (List.Mem.tail _ (List.Mem.tail _ (List.Mem.tail _ (List.Mem.tail _ (List.Mem.tail _ (List.Mem.tail _ (List.Mem.head _))))))))) (HT.out.at yo n2 yc b (List.Mem.tail _ (List.Mem.tail _ (List.Mem.tail _ (List.Mem.tail _ (List.Mem.tail _ (List.Mem.tail _ (List.Mem.head _)))))))) Gx.out Gy.out (by have := Ny.out; omega) p2 (hp2.out)).mono ?_)
  rintro e z ⟨rfl, q⟩
  have HT := Lib.hid (HT.out.keep q); clear q
  obtain ⟨p3, hp3⟩ : ∃ r : Bool, Hid (r = true ↔ ∃ t, mem a t ∧ mem b t) := by classical exact ⟨decide _, Lib.hid decide_eq_true_iff⟩
  have tp3 : (p3 != p3) = false := by simp
  have ec : decide ((0 : Int) < (nrc : Int)) = p3 := by
    have hl := (HT.out.at orc nrc crc rc (List.Mem.tail _ (List.Mem.tail _ (List.Mem.tail _ (List.Mem.tail _ (List.Mem.tail _ (List.Mem.head _))))))).len
    rw [Bool.eq_iff_iff, hp3.out, decide_eq_true_iff]
    constructor
    · intro h
      obtain ⟨x, r, hx⟩ := List.exists_cons_of_length_pos (show 0 < rc.length by omega)
      have hg := Grc.out
      rw [hx] at hg
      exact ⟨x.1, (Mrc.out x.1).1 (by rw [hx]; exact (mem_cons x r x.1).2 (.inl ⟨Int.le_refl _, hg.2.1⟩))⟩
    · rintro ⟨t, h1, h2⟩
      obtain ⟨x, hx, _⟩ := (Mrc.out t).2 ⟨h1, h2⟩
      have := List.length_pos_of_mem hx; omega
  have ec2 : decide (0 < nrc) = p3 := by rw [← ec]; congr 1; simp
  go_wp2_with fail
  (with_reducible refine (meet_any xo yo n1 xc n2 yc a b _ (HT.out.at xo n1 xc a (List.Mem.tail _ (List.Mem.tail _ (List.Mem.tail _ (List.Mem.tail _ (List.Mem.tail _ (List.Mem.tail _ (List.Mem.tail _ (List.Mem.head _))))))))) (HT.out.at yo n2 yc b (List.Mem.tail _ (List.Mem.tail _ (List.Mem.tail _ (List.Mem.tail _ (List.Mem.tail _ (List.Mem.tail _ (List.Mem.head _)))))))) Gx.out Gy.out (by have := Nx.out; omega) (by have := Ny.out; omega) p3 (hp3.out)).mono ?_)
  rintro e z ⟨rfl, q⟩
  have HT := Lib.hid (HT.out.keep q); clear q
  obtain ⟨p4, hp4⟩ : ∃ r : Bool, Hid (r = true ↔ Ahd a b) := by classical exact ⟨decide _, Lib.hid decide_eq_true_iff⟩
  have tp4 : (p4 != p4) = false := by simp
  go_wp2_with fail
  (with_reducible refine (ahead_any xo yo n1 xc n2 yc a b _ (HT.out.at xo n1 xc a (List.Mem.tail _ (List.Mem.tail _ (List.Mem.tail _ (List.Mem.tail _ (List.Mem.tail _ (List.Mem.tail _ (List.Mem.tail _ (List.Mem.head _))))))))) (HT.out.at yo n2 yc b (List.Mem.tail _ (List.Mem.tail _ (List.Mem.tail _ (List.Mem.tail _ (List.Mem.tail _ (List.Mem.tail _ (List.Mem.head _)))))))) Gx.out Gy.out p4 (hp4.out)).mono ?_)
  rintro e z ⟨rfl, q⟩
  have HT := Lib.hid (HT.out.keep q); clear q
  go_wp2_with fail
  (with_reducible refine (refAhead_any ao bo n1 c1 n2 c2 a b _ (HT.out.at ao n1 c1 a (List.Mem.tail _ (List.Mem.tail _ (List.Mem.tail _ (List.Mem.tail _ (List.Mem.tail _ (List.Mem.tail _ (List.Mem.tail _ (List.Mem.tail _ (List.Mem.tail _ (List.Mem.head _))))))))))) (HT.out.at bo n2 c2 b (List.Mem.tail _ (List.Mem.tail _ (List.Mem.tail _ (List.Mem.tail _ (List.Mem.tail _ (List.Mem.tail _ (List.Mem.tail _ (List.Mem.tail _ (List.Mem.head _)))))))))) p4 hp4.out).mono ?_)
  rintro e z ⟨rfl, q⟩
  have HT := Lib.hid (HT.out.keep q); clear q
  obtain ⟨p5, hp5⟩ : ∃ r : Bool, Hid (r = true ↔ a = b) := by classical exact ⟨decide _, Lib.hid decide_eq_true_iff⟩
  have tp5 : (p5 != p5) = false := by simp
  go_wp2_with fail
  (with_reducible refine (same_any xo yo n1 xc n2 yc a b _ (HT.out.at xo n1 xc a (List.Mem.tail _ (List.Mem.tail _ (List.Mem.tail _ (List.Mem.tail _ (List.Mem.tail _ (List.Mem.tail _ (List.Mem.tail _ (List.Mem.head _))))))))) (HT.out.at yo n2 yc b (List.Mem.tail _ (List.Mem.tail _ (List.Mem.tail _ (List.Mem.tail _ (List.Mem.tail _ (List.Mem.tail _ (List.Mem.head _)))))))) p5 (hp5.out)).mono ?_)
  rintro e z ⟨rfl, q⟩
  have HT := Lib.hid (HT.out.keep q); clear q
  go_wp2_with fail
  (with_reducible refine (alike_any ao bo n1 c1 n2 c2 a b _ (HT.out.at ao n1 c1 a (List.Mem.tail _ (List.Mem.tail _ (List.Mem.tail _ (List.Mem.tail _ (List.Mem.tail _ (List.Mem.tail _ (List.Mem.tail _ (List.Mem.tail _ (List.Mem.tail _ (List.Mem.head _))))))))))) (HT.out.at bo n2 c2 b (List.Mem.tail _ (List.Mem.tail _ (List.Mem.tail _ (List.Mem.tail _ (List.Mem.tail _ (List.Mem.tail _ (List.Mem.tail _ (List.Mem.tail _ (List.Mem.head _)))))))))) p5 (hp5.out)).mono ?_)
  rintro e z ⟨rfl, q⟩
  have HT := Lib.hid (HT.out.keep q); clear q
  obtain ⟨C, hC⟩ : ∃ C : Int, Hid (count a = C) := ⟨_, Lib.hid rfl⟩
  have tC : (C != C) = false := by simp
  go_wp2_with fail
  (with_reducible refine (count_is xo n1 xc a _ (HT.out.at xo n1 xc a (List.Mem.tail _ (List.Mem.tail _ (List.Mem.tail _ (List.Mem.tail _ (List.Mem.tail _ (List.Mem.tail _ (List.Mem.tail _ (List.Mem.head _))))))))) Ga.out C hC.out).mono ?_)
  rintro e z ⟨rfl, q⟩
  have HT := Lib.hid (HT.out.keep q); clear q
  go_wp2_with fail
  (with_reducible refine (refCount_is ao n1 c1 a _ (HT.out.at ao n1 c1 a (List.Mem.tail _ (List.Mem.tail _ (List.Mem.tail _ (List.Mem.tail _ (List.Mem.tail _ (List.Mem.tail _ (List.Mem.tail _ (List.Mem.tail _ (List.Mem.tail _ (List.Mem.head _))))))))))) Ga.out C hC.out).mono ?_)
  rintro e z ⟨rfl, q⟩
  have HT := Lib.hid (HT.out.keep q); clear q
  clear tp1 tp2 tp3 tp4 tp5 tC el ec ec2
  go_upto_region 9 with ((with_reducible refine (hull_v xo n1 xc a _ (HT.out.at xo n1 xc a (List.Mem.tail _ (List.Mem.tail _ (List.Mem.tail _ (List.Mem.tail _ (List.Mem.tail _ (List.Mem.tail _ (List.Mem.tail _ (List.Mem.head _)))))))))).mono ?_); rintro e z ⟨hx, hy, ok, rfl, HH, q⟩)
  have hq := q.trans (((Below.refl _ _).alloc (Nat.le_refl _) (.cells #[.int .i64 hx, .int .i64 hy] 35)).mono q.size)
  have f1 := (box_cells z (.int .i64 hx) (.int .i64 hy) 35).1
  have f2 := (box_cells z (.int .i64 hx) (.int .i64 hy) 35).2
  obtain ⟨bx, hbx⟩ : ∃ bx, z.heap.size = bx := ⟨_, rfl⟩
  obtain ⟨wh, hwh⟩ : ∃ wh, z.alloc (.cells #[.int .i64 hx, .int .i64 hy] 35) = wh := ⟨_, rfl⟩
  rw [hwh] at hq f1 f2
  rw [hbx] at f1 f2
  rw [hwh, hbx]
  have HT := Lib.hid (HT.out.keep hq)
  clear q hq hbx hwh
  go_cut [151] (fun s151 wx => s151 = .bool false ∧ Hid (Ws w wx [(ou3, nu3, cu3, u3), (ou2, nu2, cu2, u2), (os1, ns1, cs1, s1), (ou1, nu1, cu1, u1), (orl, nrl, crl, rl), (orc, nrc, crc, rc), (yo, n2, yc, b), (xo, n1, xc, a), (bo, n2, c2, b), (ao, n1, c1, a)]))
  case first => as_aux_lemma =>
    have HTk := Lib.hid (fun k => HT.out.keep (below_drewN (Below.refl _ wh) k))
    have SA := Lib.hid (HT.out.at ao n1 c1 a (List.Mem.tail _ (List.Mem.tail _ (List.Mem.tail _ (List.Mem.tail _ (List.Mem.tail _ (List.Mem.tail _ (List.Mem.tail _ (List.Mem.tail _ (List.Mem.tail _ (List.Mem.head _)))))))))))
    have LA := Lib.hid SA.out.len
    by_cases h0 : n1 = 0
    · subst h0
      have ha : a = [] := List.eq_nil_of_length_eq_zero LA.out
      obtain ⟨rfl, rfl, rfl⟩ : hx = 0 ∧ hy = 0 ∧ ok = false := by
        obtain ⟨e1, e2, e3⟩ := HH.out
        subst ha
        exact ⟨e1, e2, e3⟩
      clear ha HH
      go_quiet (fail)
      go_wp2_with fail
      go_meet
      exact ⟨rfl, Lib.hid (HTk.out _)⟩
    · have h1 : 0 < n1 := by omega
      have h2 : (0 : Int) < (n1 : Int) := by omega
      have h4 := Na.out
      obtain ⟨g, p, rfl, hc⟩ := SA.out.here h1
      have hl := LA.out
      have c1' := (hc 0 (by omega)).1
      have c2' := (hc (n1 - 1) (by omega)).2
      obtain ⟨k, hk⟩ : ∃ k, n1 - 1 = k := ⟨_, rfl⟩
      have e1 : IntKind.i64.wrap ((n1 : Int) - 1) = (k : Int) := by rw [IntWalk.i64_in _ (by omega)]; omega
      have k0 : (0 : Int) ≤ (k : Int) := by omega
      have k1 : (k : Int) < (n1 : Int) := by omega
      obtain ⟨d1, d2, d3⟩ : (a[0]).1 = hx ∧ (a[n1 - 1]).2 = hy ∧ ok = true := by
        obtain ⟨e1, e2, e3⟩ := HH.out
        refine ⟨?_, ?_, by rw [e3]; simp; omega⟩
        · rw [e1]; unfold hullA; rw [List.getD_eq_getElem?_getD, List.getElem?_eq_getElem (by omega)]; rfl
        · rw [e2]; unfold hullB; rw [List.getD_eq_getElem?_getD, List.getElem?_eq_getElem (by omega)]; simp only [hl]; rfl
      rw [d1] at c1'
      rw [d2] at c2'
      rw [hk] at c2'
      simp only [Nat.zero_mul, Nat.add_zero] at c1' c2'
      subst d3
      have t1 : (hx != hx) = false := by simp
      have t2 : (hy != hy) = false := by simp
      clear d1 d2 hc hl hk h4 HH
      go_quiet (fail)
      go_wp2_with fail
      go_meet
      exact ⟨rfl, Lib.hid (HTk.out _)⟩
  case rest =>
  obtain ⟨rfl, HT⟩ := hcut
  clear HH f1 f2
  go_wp2_with fail
  (with_reducible refine (move_any xo n1 xc a Ga.out (by have := Na.out; omega) by' hb1 hb2 _ (HT.out.at xo n1 xc a (List.Mem.tail _ (List.Mem.tail _ (List.Mem.tail _ (List.Mem.tail _ (List.Mem.tail _ (List.Mem.tail _ (List.Mem.tail _ (List.Mem.head _)))))))))).mono ?_)
  rintro e z ⟨v, k, rfl, q, HM⟩
  have HM := Lib.hid HM
  have HT := Lib.hid (HT.out.keep q); clear q
  go_wp2_with fail
  (with_reducible refine (refMove_any ao n1 c1 a Ga.out (by have := Na.out; omega) by' hb1 hb2 _ (HT.out.at ao n1 c1 a (List.Mem.tail _ (List.Mem.tail _ (List.Mem.tail _ (List.Mem.tail _ (List.Mem.tail _ (List.Mem.tail _ (List.Mem.tail _ (List.Mem.tail _ (List.Mem.tail _ (List.Mem.head _)))))))))))).mono ?_)
  rintro e z ⟨v2, k2, rfl, q, HM2⟩
  obtain ⟨rfl, r, vo, vn, vc, vo2, vc2, rfl, rfl, t1, t2⟩ := moved_same HM.out HM2
  have HT := Lib.hid ((HT.out.add q (t1.keep q)).add (Below.refl _ _) t2)
  have tk : (k == k) = true := by simp
  clear q HM2 HM t1 t2
  go_wp2_with fail
  (with_reducible refine (alike_any vo vo2 vn vc vn vc2 r r _ (HT.out.at vo vn vc r (List.Mem.tail _ (List.Mem.head _))) (HT.out.at vo2 vn vc2 r (List.Mem.head _)) true (by simp)).mono ?_)
  rintro e z ⟨rfl, q⟩
  have HT := Lib.hid (HT.out.keep q); clear q
  go_wp2_with fail
  (with_reducible refine (alike_any xo ao n1 xc n1 c1 a a _ (HT.out.at xo n1 xc a (List.Mem.tail _ (List.Mem.tail _ (List.Mem.tail _ (List.Mem.tail _ (List.Mem.tail _ (List.Mem.tail _ (List.Mem.tail _ (List.Mem.tail _ (List.Mem.tail _ (List.Mem.head _))))))))))) (HT.out.at ao n1 c1 a (List.Mem.tail _ (List.Mem.tail _ (List.Mem.tail _ (List.Mem.tail _ (List.Mem.tail _ (List.Mem.tail _ (List.Mem.tail _ (List.Mem.tail _ (List.Mem.tail _ (List.Mem.tail _ (List.Mem.tail _ (List.Mem.head _))))))))))))) true (by simp)).mono ?_)
  rintro e z ⟨rfl, q⟩
  have HT := Lib.hid (HT.out.keep q); clear q
  go_wp2_with fail
  (with_reducible refine (alike_any yo bo n2 yc n2 c2 b b _ (HT.out.at yo n2 yc b (List.Mem.tail _ (List.Mem.tail _ (List.Mem.tail _ (List.Mem.tail _ (List.Mem.tail _ (List.Mem.tail _ (List.Mem.tail _ (List.Mem.tail _ (List.Mem.head _)))))))))) (HT.out.at bo n2 c2 b (List.Mem.tail _ (List.Mem.tail _ (List.Mem.tail _ (List.Mem.tail _ (List.Mem.tail _ (List.Mem.tail _ (List.Mem.tail _ (List.Mem.tail _ (List.Mem.tail _ (List.Mem.tail _ (List.Mem.head _)))))))))))) true (by simp)).mono ?_)
  rintro e z ⟨rfl, q⟩
  have HT := Lib.hid (HT.out.keep q); clear q
  go_wp2_with fail
  (with_reducible refine (awake_any _).mono ?_)
  rintro e z ⟨rfl, q⟩
  have HT := Lib.hid (HT.out.keep q); clear q
  go_wp2
  go_returns
  exact ⟨rfl, HT.out.bw⟩
end Go.Proofs.Ythjpnnggghfepaa
