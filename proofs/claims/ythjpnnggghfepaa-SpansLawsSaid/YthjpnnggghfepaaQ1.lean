/- SpansMoved: the walk. -/
import Derived.Test.YthjpnnggghfepaaP2
import Derived.Deep.DeepCutAuto
import Derived.KernelRfl
namespace Go.Proofs.Ythjpnnggghfepaa
set_option linter.unusedVariables false
set_option linter.unusedSimpArgs false
open Go.ChangeShapes Go.WideShapes Go.ChangeAt Go.RowKit
theorem count_is (ao : Option Addr) (n c : Nat) (l : List Sp) (w : World) (hw : SpAt w ao n c l) (hg : Good l) (C : Int) (hC : count l = C) :
    Calls Try.prog 28 #[.slice ao n c] w fun e w' => e = .returned (.int .i64 C) ∧ Below w.heap.size w w' := by
  subst hC; exact count_any ao n c l w hw hg
theorem SpAt.first {w : World} {g p n c : Nat} {l : List Sp} (h : SpAt w (some ⟨g, p, none⟩) n c l) (h0 : 0 < n) : w.cell? ⟨g, p, none⟩ = some (.int .i64 (hullA l)) := by
  obtain ⟨b', p', e, hc⟩ := h.here h0
  cases e
  have hl := h.len
  have := (hc 0 (by omega)).1
  have e : hullA l = (l[0]'(by omega)).1 := by unfold hullA; rw [List.getD_eq_getElem?_getD, List.getElem?_eq_getElem (by omega)]; rfl
  rw [e]
  simpa using this
theorem hullA_moved (a : List Sp) (d : Int) (h : a ≠ []) : hullA (moved a d) = hullA a + d := by
  obtain ⟨s, r, rfl⟩ := List.exists_cons_of_ne_nil h
  rfl
set_option maxHeartbeats 4000000 in
set_option maxRecDepth 100000 in
theorem moved_law (A0 B0 : Option Addr) (m1 m2 d1 d2 : Nat) (l1 l2 : List Sp) (by' : Int) (hb1 : -9223372036854775808 ≤ by') (hb2 : by' ≤ 9223372036854775807) (w : World) (h1 : SpAt w A0 m1 d1 l1) (h2 : SpAt w B0 m2 d2 l2) :
    Calls Try.prog 7 #[.slice A0 m1 d1, .slice B0 m2 d2, .int .i64 by'] w fun e w' => e = .returned (.bool true) ∧ Below w.heap.size w w' := by
  go_enter Try.func7, Try.ntmps7
  go_upto_region 2 with (first
    | (go_at_call 33; (with_reducible refine (made_any A0 m1 d1 l1 w h1).mono ?_); rintro e w1 ⟨ao, n1, c1, a, rfl, ga, e1, s1, q1⟩)
    | (go_at_call 33; (with_reducible refine (made_any B0 m2 d2 l2 w1 (h2.keep q1)).mono ?_); rintro e w2 ⟨bo, n2, c2, b, rfl, gb, e2, s2, q2⟩))
  have HT : Hid (Ws w w2 [(bo, n2, c2, b), (ao, n1, c1, a)]) := Lib.hid (Ws.add (Ws.add ⟨Below.refl _ _, fun x hx => by cases hx⟩ q1 s1) q2 s2)
  have LA := Lib.hid s1.len
  have LB := Lib.hid s2.len
  have Ga := Lib.hid ga
  have Gb := Lib.hid gb
  have Na := Lib.hid e1
  have Nb := Lib.hid e2
  clear s1 s2 q1 q2 h1 h2 ga gb e1 e2
  by_cases hA : ∀ s ∈ a, okSp by' s
  · have HA := Lib.hid hA
    clear hA
    by_cases hB : ∀ s ∈ b, okSp by' s
    · have HB := Lib.hid hB
      clear hB
      by_cases hne : a = []
      · obtain rfl : n1 = 0 := by have := LA.out; rw [hne] at this; simpa using this.symm
        clear hne
        go_wp2_with fail
        (with_reducible refine (move_right' a Ga.out by' hb1 hb2 HA.out ao 0 c1 (by have := Na.out; omega) _ (HT.out.at ao 0 c1 (a) (List.Mem.tail _ (List.Mem.head _)))).mono ?_)
        rintro e z ⟨xo, xc, rfl, HX, q⟩
        have HT := Lib.hid (HT.out.add q HX.out)
        clear q HX
        have Nx := Na
        go_wp2_with fail
        (with_reducible refine (move_right' b Gb.out by' hb1 hb2 HB.out bo n2 c2 (by have := Nb.out; omega) _ (HT.out.at bo n2 c2 (b) (List.Mem.tail _ (List.Mem.head _)))).mono ?_)
        rintro e z ⟨yo, yc, rfl, HX, q⟩
        have HT := Lib.hid (HT.out.add q HX.out)
        clear q HX
        have Ny := Nb
        have Gx := Lib.hid (good_moved by' Ga.out HA.out)
        obtain ⟨C, hC⟩ : ∃ z : Int, Hid (count a = z ∧ count (moved a by') = z) := ⟨_, Lib.hid ⟨rfl, count_moved a by'⟩⟩
        have tC : (C != C) = false := by simp
        have CR := Lib.hid (fun W (HT : Hid (Ws w W [(yo, n2, yc, moved b by'), (xo, 0, xc, moved a by'), (bo, n2, c2, b), (ao, 0, c1, a)])) => right_any xo 0 xc (moved a by') W (HT.out.at xo 0 xc (moved a by') (List.Mem.tail _ (List.Mem.head _))) true (by simp only [true_iff]; exact Gx.out))
        have CX := Lib.hid (fun W (HT : Hid (Ws w W [(yo, n2, yc, moved b by'), (xo, 0, xc, moved a by'), (bo, n2, c2, b), (ao, 0, c1, a)])) => count_is xo 0 xc (moved a by') W (HT.out.at xo 0 xc (moved a by') (List.Mem.tail _ (List.Mem.head _))) Gx.out C hC.out.2)
        have CA := Lib.hid (fun W (HT : Hid (Ws w W [(yo, n2, yc, moved b by'), (xo, 0, xc, moved a by'), (bo, n2, c2, b), (ao, 0, c1, a)])) => count_is ao 0 c1 a W (HT.out.at ao 0 c1 (a) (List.Mem.tail _ (List.Mem.tail _ (List.Mem.tail _ (List.Mem.head _))))) Ga.out C hC.out.1)
        go_upto_region 6 with fail
        go_cut [77] (fun s77 wx => s77 = .bool false ∧ Hid (Ws w wx [(yo, n2, yc, moved b by'), (xo, 0, xc, moved a by'), (bo, n2, c2, b), (ao, 0, c1, a)]))
        case first => as_aux_lemma =>
          refine wp_region_held_drew (S := (fun W => Hid (Ws w W [(yo, n2, yc, moved b by'), (xo, 0, xc, moved a by'), (bo, n2, c2, b), (ao, 0, c1, a)]) ∧ True)) (by kernel_rfl) ?_ (fun hHeld => ?_)
          · exact ⟨Lib.hid (HT.out.keep (Below.refl _ _).drew), trivial⟩
          refine wpAnyH_take (i := 0) (oi := _) (v := ?_) rfl (by kernel_rfl) (by kernel_rfl) (by kernel_rfl) (fun _ _ _ h => h) (Or.inl ⟨by kernel_rfl, ?_⟩) (by assumption) ?_
          rotate_left 1
          focus (intro wq hSw; (try dsimp only at hSw); obtain ⟨s0, s1⟩ := hSw; go_simp; (try with_reducible rfl); done)
          try simp only [List.getElem_toArray, List.getElem_cons_zero, List.getElem_cons_succ, Act.put, List.setIfInBounds_toArray, List.set_cons_zero, List.set_cons_succ]
          refine wpAnyH_ready (rs := [1]) (by kernel_rfl) (by simp) ?_
          refine AllReadyH.cons (o := _) rfl (fun K hK => ?_) AllReadyH.nil
          rw [if_pos (by kernel_rfl)]
          go_simp
          (go_at_call 14; (with_reducible refine (CR.out _ hHeld.1).mono ?_); rintro e z ⟨rfl, q⟩)
          first | refine hK.out _ _ ?_ (fun hHeld => ?_) | (go_wp2_with fail; refine hK.out _ _ ?_ (fun hHeld => ?_))
          · exact ⟨Lib.hid (hHeld.1.out.keep q), trivial⟩
          clear hK K
          try simp only [List.getElem_toArray, List.getElem_cons_zero, List.getElem_cons_succ, Act.put, List.setIfInBounds_toArray, List.set_cons_zero, List.set_cons_succ]
          refine wpAnyH_take (i := 2) (oi := _) (v := ?_) rfl (by kernel_rfl) (by kernel_rfl) (by kernel_rfl) (fun _ _ _ h => h) (Or.inl ⟨by kernel_rfl, ?_⟩) (by assumption) ?_
          rotate_left 1
          focus (intro wq hSw; (try dsimp only at hSw); obtain ⟨s0, s1⟩ := hSw; go_simp; (try with_reducible rfl); done)
          try simp only [List.getElem_toArray, List.getElem_cons_zero, List.getElem_cons_succ, Act.put, List.setIfInBounds_toArray, List.set_cons_zero, List.set_cons_succ]
          refine wpAnyH_take (i := 3) (oi := _) (v := ?_) rfl (by kernel_rfl) (by kernel_rfl) (by kernel_rfl) (fun _ _ _ h => h) (Or.inl ⟨by kernel_rfl, ?_⟩) (by assumption) ?_
          rotate_left 1
          focus (intro wq hSw; (try dsimp only at hSw); obtain ⟨s0, s1⟩ := hSw; go_simp; (try with_reducible rfl); done)
          try simp only [List.getElem_toArray, List.getElem_cons_zero, List.getElem_cons_succ, Act.put, List.setIfInBounds_toArray, List.set_cons_zero, List.set_cons_succ]
          refine wpAnyH_take (i := 4) (oi := _) (v := ?_) rfl (by kernel_rfl) (by kernel_rfl) (by kernel_rfl) (fun _ _ _ h => h) (Or.inl ⟨by kernel_rfl, ?_⟩) (by assumption) ?_
          rotate_left 1
          focus (intro wq hSw; (try dsimp only at hSw); obtain ⟨s0, s1⟩ := hSw; go_simp; (try with_reducible rfl); done)
          try simp only [List.getElem_toArray, List.getElem_cons_zero, List.getElem_cons_succ, Act.put, List.setIfInBounds_toArray, List.set_cons_zero, List.set_cons_succ]
          refine wpAnyH_take (i := 6) (oi := _) (v := ?_) rfl (by kernel_rfl) (by kernel_rfl) (by kernel_rfl) (fun _ _ _ h => h) (Or.inl ⟨by kernel_rfl, ?_⟩) (by assumption) ?_
          rotate_left 1
          focus (intro wq hSw; (try dsimp only at hSw); obtain ⟨s0, s1⟩ := hSw; go_simp; (try with_reducible rfl); done)
          try simp only [List.getElem_toArray, List.getElem_cons_zero, List.getElem_cons_succ, Act.put, List.setIfInBounds_toArray, List.set_cons_zero, List.set_cons_succ]
          refine wpAnyH_ready (rs := [5]) (by kernel_rfl) (by simp) ?_
          refine AllReadyH.cons (o := _) rfl (fun K hK => ?_) AllReadyH.nil
          rw [if_pos (by kernel_rfl)]
          go_simp
          (go_at_call 28; (with_reducible refine (CX.out _ hHeld.1).mono ?_); rintro e z ⟨rfl, q⟩)
          first | refine hK.out _ _ ?_ (fun hHeld => ?_) | (go_wp2_with fail; refine hK.out _ _ ?_ (fun hHeld => ?_))
          · exact ⟨Lib.hid (hHeld.1.out.keep q), trivial⟩
          clear hK K
          try simp only [List.getElem_toArray, List.getElem_cons_zero, List.getElem_cons_succ, Act.put, List.setIfInBounds_toArray, List.set_cons_zero, List.set_cons_succ]
          refine wpAnyH_ready (rs := [7]) (by kernel_rfl) (by simp) ?_
          refine AllReadyH.cons (o := _) rfl (fun K hK => ?_) AllReadyH.nil
          rw [if_pos (by kernel_rfl)]
          go_simp
          (go_at_call 28; (with_reducible refine (CA.out _ hHeld.1).mono ?_); rintro e z ⟨rfl, q⟩)
          first | refine hK.out _ _ ?_ (fun hHeld => ?_) | (go_wp2_with fail; refine hK.out _ _ ?_ (fun hHeld => ?_))
          · exact ⟨Lib.hid (hHeld.1.out.keep q), trivial⟩
          clear hK K
          try simp only [List.getElem_toArray, List.getElem_cons_zero, List.getElem_cons_succ, Act.put, List.setIfInBounds_toArray, List.set_cons_zero, List.set_cons_succ]
          refine wpAnyH_take (i := 8) (oi := _) (v := ?_) rfl (by kernel_rfl) (by kernel_rfl) (by kernel_rfl) (fun _ _ _ h => h) (Or.inl ⟨by kernel_rfl, ?_⟩) (by assumption) ?_
          rotate_left 1
          focus (intro wq hSw; (try dsimp only at hSw); obtain ⟨s0, s1⟩ := hSw; go_simp; (try with_reducible rfl); done)
          try simp only [List.getElem_toArray, List.getElem_cons_zero, List.getElem_cons_succ, Act.put, List.setIfInBounds_toArray, List.set_cons_zero, List.set_cons_succ]
          refine wpAnyH_take (i := 9) (oi := _) (v := ?_) rfl (by kernel_rfl) (by kernel_rfl) (by kernel_rfl) (fun _ _ _ h => h) (Or.inl ⟨by kernel_rfl, ?_⟩) (by assumption) ?_
          rotate_left 1
          focus (intro wq hSw; (try dsimp only at hSw); obtain ⟨s0, s1⟩ := hSw; go_simp; (try with_reducible rfl); done)
          try simp only [List.getElem_toArray, List.getElem_cons_zero, List.getElem_cons_succ, Act.put, List.setIfInBounds_toArray, List.set_cons_zero, List.set_cons_succ]
          refine wpAnyH_take (i := 10) (oi := _) (v := ?_) rfl (by kernel_rfl) (by kernel_rfl) (by kernel_rfl) (fun _ _ _ h => h) (Or.inl ⟨by kernel_rfl, ?_⟩) (by assumption) ?_
          rotate_left 1
          focus (intro wq hSw; (try dsimp only at hSw); obtain ⟨s0, s1⟩ := hSw; go_simp; (try with_reducible rfl); done)
          try simp only [List.getElem_toArray, List.getElem_cons_zero, List.getElem_cons_succ, Act.put, List.setIfInBounds_toArray, List.set_cons_zero, List.set_cons_succ]
          refine wpAnyH_take (i := 11) (oi := _) (v := ?_) rfl (by kernel_rfl) (by kernel_rfl) (by kernel_rfl) (fun _ _ _ h => h) (Or.inl ⟨by kernel_rfl, ?_⟩) (by assumption) ?_
          rotate_left 1
          focus (intro wq hSw; (try dsimp only at hSw); obtain ⟨s0, s1⟩ := hSw; go_simp; (try with_reducible rfl); done)
          try simp only [List.getElem_toArray, List.getElem_cons_zero, List.getElem_cons_succ, Act.put, List.setIfInBounds_toArray, List.set_cons_zero, List.set_cons_succ]
          refine wpAnyH_take (i := 12) (oi := _) (v := ?_) rfl (by kernel_rfl) (by kernel_rfl) (by kernel_rfl) (fun _ _ _ h => h) (Or.inl ⟨by kernel_rfl, ?_⟩) (by assumption) ?_
          rotate_left 1
          focus (intro wq hSw; (try dsimp only at hSw); obtain ⟨s0, s1⟩ := hSw; go_simp; (try with_reducible rfl); done)
          try simp only [List.getElem_toArray, List.getElem_cons_zero, List.getElem_cons_succ, Act.put, List.setIfInBounds_toArray, List.set_cons_zero, List.set_cons_succ]
          refine wpAnyH_take (i := 13) (oi := _) (v := ?_) rfl (by kernel_rfl) (by kernel_rfl) (by kernel_rfl) (fun _ _ _ h => h) (Or.inl ⟨by kernel_rfl, ?_⟩) (by assumption) ?_
          rotate_left 1
          focus (intro wq hSw; (try dsimp only at hSw); obtain ⟨s0, s1⟩ := hSw; go_simp; (try with_reducible rfl); done)
          try simp only [List.getElem_toArray, List.getElem_cons_zero, List.getElem_cons_succ, Act.put, List.setIfInBounds_toArray, List.set_cons_zero, List.set_cons_succ]
          refine wpAnyH_take (i := 14) (oi := _) (v := ?_) rfl (by kernel_rfl) (by kernel_rfl) (by kernel_rfl) (fun _ _ _ h => h) (Or.inl ⟨by kernel_rfl, ?_⟩) (by assumption) ?_
          rotate_left 1
          focus (intro wq hSw; (try dsimp only at hSw); obtain ⟨s0, s1⟩ := hSw; go_simp; (try with_reducible rfl); done)
          try simp only [List.getElem_toArray, List.getElem_cons_zero, List.getElem_cons_succ, Act.put, List.setIfInBounds_toArray, List.set_cons_zero, List.set_cons_succ]
          refine wpAnyH_take (i := 15) (oi := _) (v := undef) rfl (by kernel_rfl) (by kernel_rfl) (by kernel_rfl) (fun _ _ _ h => h) (Or.inr ⟨by kernel_rfl, rfl⟩) (by assumption) ?_
          try simp only [List.getElem_toArray, List.getElem_cons_zero, List.getElem_cons_succ, Act.put, List.setIfInBounds_toArray, List.set_cons_zero, List.set_cons_succ]
          refine wpAnyH_take (i := 16) (oi := _) (v := undef) rfl (by kernel_rfl) (by kernel_rfl) (by kernel_rfl) (fun _ _ _ h => h) (Or.inr ⟨by kernel_rfl, rfl⟩) (by assumption) ?_
          try simp only [List.getElem_toArray, List.getElem_cons_zero, List.getElem_cons_succ, Act.put, List.setIfInBounds_toArray, List.set_cons_zero, List.set_cons_succ]
          refine wpAnyH_take (i := 17) (oi := _) (v := undef) rfl (by kernel_rfl) (by kernel_rfl) (by kernel_rfl) (fun _ _ _ h => h) (Or.inr ⟨by kernel_rfl, rfl⟩) (by assumption) ?_
          try simp only [List.getElem_toArray, List.getElem_cons_zero, List.getElem_cons_succ, Act.put, List.setIfInBounds_toArray, List.set_cons_zero, List.set_cons_succ]
          refine wpAnyH_take (i := 18) (oi := _) (v := undef) rfl (by kernel_rfl) (by kernel_rfl) (by kernel_rfl) (fun _ _ _ h => h) (Or.inr ⟨by kernel_rfl, rfl⟩) (by assumption) ?_
          try simp only [List.getElem_toArray, List.getElem_cons_zero, List.getElem_cons_succ, Act.put, List.setIfInBounds_toArray, List.set_cons_zero, List.set_cons_succ]
          refine wpAnyH_take (i := 19) (oi := _) (v := undef) rfl (by kernel_rfl) (by kernel_rfl) (by kernel_rfl) (fun _ _ _ h => h) (Or.inr ⟨by kernel_rfl, rfl⟩) (by assumption) ?_
          try simp only [List.getElem_toArray, List.getElem_cons_zero, List.getElem_cons_succ, Act.put, List.setIfInBounds_toArray, List.set_cons_zero, List.set_cons_succ]
          refine wpAnyH_take (i := 20) (oi := _) (v := undef) rfl (by kernel_rfl) (by kernel_rfl) (by kernel_rfl) (fun _ _ _ h => h) (Or.inr ⟨by kernel_rfl, rfl⟩) (by assumption) ?_
          try simp only [List.getElem_toArray, List.getElem_cons_zero, List.getElem_cons_succ, Act.put, List.setIfInBounds_toArray, List.set_cons_zero, List.set_cons_succ]
          refine wpAnyH_take (i := 21) (oi := _) (v := undef) rfl (by kernel_rfl) (by kernel_rfl) (by kernel_rfl) (fun _ _ _ h => h) (Or.inr ⟨by kernel_rfl, rfl⟩) (by assumption) ?_
          try simp only [List.getElem_toArray, List.getElem_cons_zero, List.getElem_cons_succ, Act.put, List.setIfInBounds_toArray, List.set_cons_zero, List.set_cons_succ]
          refine wpAnyH_take (i := 22) (oi := _) (v := undef) rfl (by kernel_rfl) (by kernel_rfl) (by kernel_rfl) (fun _ _ _ h => h) (Or.inr ⟨by kernel_rfl, rfl⟩) (by assumption) ?_
          try simp only [List.getElem_toArray, List.getElem_cons_zero, List.getElem_cons_succ, Act.put, List.setIfInBounds_toArray, List.set_cons_zero, List.set_cons_succ]
          refine wpAnyH_take (i := 23) (oi := _) (v := undef) rfl (by kernel_rfl) (by kernel_rfl) (by kernel_rfl) (fun _ _ _ h => h) (Or.inr ⟨by kernel_rfl, rfl⟩) (by assumption) ?_
          try simp only [List.getElem_toArray, List.getElem_cons_zero, List.getElem_cons_succ, Act.put, List.setIfInBounds_toArray, List.set_cons_zero, List.set_cons_succ]
          refine wpAnyH_take (i := 24) (oi := _) (v := undef) rfl (by kernel_rfl) (by kernel_rfl) (by kernel_rfl) (fun _ _ _ h => h) (Or.inr ⟨by kernel_rfl, rfl⟩) (by assumption) ?_
          try simp only [List.getElem_toArray, List.getElem_cons_zero, List.getElem_cons_succ, Act.put, List.setIfInBounds_toArray, List.set_cons_zero, List.set_cons_succ]
          refine wpAnyH_take (i := 25) (oi := _) (v := undef) rfl (by kernel_rfl) (by kernel_rfl) (by kernel_rfl) (fun _ _ _ h => h) (Or.inr ⟨by kernel_rfl, rfl⟩) (by assumption) ?_
          try simp only [List.getElem_toArray, List.getElem_cons_zero, List.getElem_cons_succ, Act.put, List.setIfInBounds_toArray, List.set_cons_zero, List.set_cons_succ]
          refine wpAnyH_take (i := 26) (oi := _) (v := ?_) rfl (by kernel_rfl) (by kernel_rfl) (by kernel_rfl) (fun _ _ _ h => h) (Or.inl ⟨by kernel_rfl, ?_⟩) (by assumption) ?_
          rotate_left 1
          focus (intro wq hSw; (try dsimp only at hSw); obtain ⟨s0, s1⟩ := hSw; go_simp; (try with_reducible rfl); done)
          try simp only [List.getElem_toArray, List.getElem_cons_zero, List.getElem_cons_succ, Act.put, List.setIfInBounds_toArray, List.set_cons_zero, List.set_cons_succ]
          refine wpAnyH_take (i := 27) (oi := _) (v := ?_) rfl (by kernel_rfl) (by kernel_rfl) (by kernel_rfl) (fun _ _ _ h => h) (Or.inl ⟨by kernel_rfl, ?_⟩) (by assumption) ?_
          rotate_left 1
          focus (intro wq hSw; (try dsimp only at hSw); obtain ⟨s0, s1⟩ := hSw; go_simp; (try with_reducible rfl); done)
          try simp only [List.getElem_toArray, List.getElem_cons_zero, List.getElem_cons_succ, Act.put, List.setIfInBounds_toArray, List.set_cons_zero, List.set_cons_succ]
          refine wpAnyH_done (by kernel_rfl) ?_ _
          go_wp2_with fail
          go_meet
          exact ⟨rfl, hHeld.1⟩
        case rest =>
        obtain ⟨rfl, HT⟩ := hcut
        clear CR CX CA
        have Gy := Lib.hid (good_moved by' Gb.out HB.out)
        go_wp2_with fail
        (with_reducible refine (cut_sp ao bo 0 c1 n2 c2 a b Ga.out Gb.out (by have := Na.out; omega) (by have := Nb.out; omega) _ (HT.out.at ao 0 c1 (a) (List.Mem.tail _ (List.Mem.tail _ (List.Mem.tail _ (List.Mem.head _))))) (HT.out.at bo n2 c2 (b) (List.Mem.tail _ (List.Mem.tail _ (List.Mem.head _))))).mono ?_)
        rintro e z ⟨ocu, ncu, ccu, cu, rfl, Hcu, q⟩
        have HT := Lib.hid (HT.out.add q Hcu.out.2.2.2)
        have Gcu := Lib.hid Hcu.out.1
        have Mcu := Lib.hid Hcu.out.2.1
        have Ncu : Hid (ncu ≤ 160) := Lib.hid (by have := Hcu.out.2.2.1; have := Na.out; have := Nb.out; omega)
        clear q Hcu
        have HC : Hid (∀ s ∈ cu, okSp by' s) := Lib.hid (ok_of_mem Gcu.out (fun t h => ok_mem HA.out ((Mcu.out t).1 h).1))
        go_wp2_with fail
        (with_reducible refine (move_right' cu Gcu.out by' hb1 hb2 HC.out ocu ncu ccu (by have := Ncu.out; omega) _ (HT.out.at ocu ncu ccu (cu) (List.Mem.head _))).mono ?_)
        rintro e z ⟨zo, zc, rfl, HX, q⟩
        have HT := Lib.hid (HT.out.add q HX.out)
        clear q HX
        have Gz := Lib.hid (good_moved by' Gcu.out HC.out)
        go_wp2_with fail
        (with_reducible refine (cut_sp xo yo 0 xc n2 yc (moved a by') (moved b by') Gx.out Gy.out (by have := Na.out; omega) (by have := Nb.out; omega) _ (HT.out.at xo 0 xc (moved a by') (List.Mem.tail _ (List.Mem.tail _ (List.Mem.tail _ (List.Mem.head _))))) (HT.out.at yo n2 yc (moved b by') (List.Mem.tail _ (List.Mem.tail _ (List.Mem.head _))))).mono ?_)
        rintro e z ⟨ko, nk, kc, ck, rfl, Hck, q⟩
        have HT := Lib.hid (HT.out.add q Hck.out.2.2.2)
        clear q
        go_wp2_with fail
        (with_reducible refine (same_any zo ko ncu zc nk kc (moved cu by') ck _ (HT.out.at zo ncu zc (moved cu by') (List.Mem.tail _ (List.Mem.head _))) (HT.out.at ko nk kc (ck) (List.Mem.head _)) true (by simp only [true_iff]; refine same_mem Gz.out Hck.out.1 (fun t => ?_); rw [Hck.out.2.1 t, mem_moved, mem_moved, mem_moved, Mcu.out])).mono ?_)
        rintro e z ⟨rfl, q⟩
        have HT := Lib.hid (HT.out.keep q); clear q
        obtain ⟨pq, hp⟩ : ∃ r : Bool, Hid (r = true ↔ Ahd a b) := by classical exact ⟨decide _, Lib.hid decide_eq_true_iff⟩
        go_wp2_with fail
        (with_reducible refine (ahead_any xo yo 0 xc n2 yc (moved a by') (moved b by') _ (HT.out.at xo 0 xc (moved a by') (List.Mem.tail _ (List.Mem.tail _ (List.Mem.tail _ (List.Mem.tail _ (List.Mem.head _)))))) (HT.out.at yo n2 yc (moved b by') (List.Mem.tail _ (List.Mem.tail _ (List.Mem.tail _ (List.Mem.head _))))) Gx.out Gy.out pq (hp.out.trans (ahd_moved a b by').symm)).mono ?_)
        rintro e z ⟨rfl, q⟩
        have HT := Lib.hid (HT.out.keep q); clear q
        go_wp2_with fail
        (with_reducible refine (ahead_any ao bo 0 c1 n2 c2 a b _ (HT.out.at ao 0 c1 (a) (List.Mem.tail _ (List.Mem.tail _ (List.Mem.tail _ (List.Mem.tail _ (List.Mem.tail _ (List.Mem.tail _ (List.Mem.head _)))))))) (HT.out.at bo n2 c2 (b) (List.Mem.tail _ (List.Mem.tail _ (List.Mem.tail _ (List.Mem.tail _ (List.Mem.tail _ (List.Mem.head _))))))) Ga.out Gb.out pq hp.out).mono ?_)
        rintro e z ⟨rfl, q⟩
        have HT := Lib.hid (HT.out.keep q); clear q
        have t3 : (pq == pq) = true := by simp
        go_wp2_with fail
        (with_reducible refine (awake_any _).mono ?_)
        rintro e z ⟨rfl, q⟩
        have HT := Lib.hid (HT.out.keep q); clear q
        go_wp2
        go_returns
        exact ⟨rfl, HT.out.bw⟩
      · have hn0 : 0 < n1 := by have := LA.out; have := List.length_pos_iff.2 hne; omega
        go_wp2_with fail
        (with_reducible refine (move_right' a Ga.out by' hb1 hb2 HA.out ao n1 c1 (by have := Na.out; omega) _ (HT.out.at ao n1 c1 (a) (List.Mem.tail _ (List.Mem.head _)))).mono ?_)
        rintro e z ⟨xo, xc, rfl, HX, q⟩
        have HT := Lib.hid (HT.out.add q HX.out)
        clear q HX
        have Nx := Na
        go_wp2_with fail
        (with_reducible refine (move_right' b Gb.out by' hb1 hb2 HB.out bo n2 c2 (by have := Nb.out; omega) _ (HT.out.at bo n2 c2 (b) (List.Mem.tail _ (List.Mem.head _)))).mono ?_)
        rintro e z ⟨yo, yc, rfl, HX, q⟩
        have HT := Lib.hid (HT.out.add q HX.out)
        clear q HX
        have Ny := Nb
        have Gx := Lib.hid (good_moved by' Ga.out HA.out)
        obtain ⟨g, p, rfl, _⟩ := (HT.out.at ao n1 c1 (a) (List.Mem.tail _ (List.Mem.tail _ (List.Mem.tail _ (List.Mem.head _))))).here hn0
        obtain ⟨g', p', rfl, _⟩ := (HT.out.at xo n1 xc (moved a by') (List.Mem.tail _ (List.Mem.head _))).here hn0
        obtain ⟨fa, hfa⟩ : ∃ z : Int, Hid (hullA a = z ∧ hullA (moved a by') = z + by') := ⟨_, Lib.hid ⟨rfl, hullA_moved a by' hne⟩⟩
        obtain ⟨f1, f2⟩ : -1099511627776 ≤ fa ∧ fa ≤ 1099511627776 := by have := hull_mem Ga.out hne; rw [hfa.out.1] at this; omega
        obtain ⟨f3, f4⟩ : -2199023255552 ≤ by' ∧ by' ≤ 2199023255552 := ok_span Ga.out HA.out hne
        have c1' := (HT.out.at (some ⟨g, p, none⟩) n1 c1 (a) (List.Mem.tail _ (List.Mem.tail _ (List.Mem.tail _ (List.Mem.head _))))).first hn0; rw [hfa.out.1] at c1'
        have c2' := (HT.out.at (some ⟨g', p', none⟩) n1 xc (moved a by') (List.Mem.tail _ (List.Mem.head _))).first hn0; rw [hfa.out.2] at c2'
        obtain ⟨C, hC⟩ : ∃ z : Int, Hid (count a = z ∧ count (moved a by') = z) := ⟨_, Lib.hid ⟨rfl, count_moved a by'⟩⟩
        have tC : (C != C) = false := by simp
        have CR := Lib.hid (fun W (HT : Hid (Ws w W [(yo, n2, yc, moved b by'), ((some ⟨g', p', none⟩), n1, xc, moved a by'), (bo, n2, c2, b), ((some ⟨g, p, none⟩), n1, c1, a)])) => right_any (some ⟨g', p', none⟩) n1 xc (moved a by') W (HT.out.at (some ⟨g', p', none⟩) n1 xc (moved a by') (List.Mem.tail _ (List.Mem.head _))) true (by simp only [true_iff]; exact Gx.out))
        have CX := Lib.hid (fun W (HT : Hid (Ws w W [(yo, n2, yc, moved b by'), ((some ⟨g', p', none⟩), n1, xc, moved a by'), (bo, n2, c2, b), ((some ⟨g, p, none⟩), n1, c1, a)])) => count_is (some ⟨g', p', none⟩) n1 xc (moved a by') W (HT.out.at (some ⟨g', p', none⟩) n1 xc (moved a by') (List.Mem.tail _ (List.Mem.head _))) Gx.out C hC.out.2)
        have CA := Lib.hid (fun W (HT : Hid (Ws w W [(yo, n2, yc, moved b by'), ((some ⟨g', p', none⟩), n1, xc, moved a by'), (bo, n2, c2, b), ((some ⟨g, p, none⟩), n1, c1, a)])) => count_is (some ⟨g, p, none⟩) n1 c1 a W (HT.out.at (some ⟨g, p, none⟩) n1 c1 (a) (List.Mem.tail _ (List.Mem.tail _ (List.Mem.tail _ (List.Mem.head _))))) Ga.out C hC.out.1)
        go_upto_region 6 with fail
        go_cut [77] (fun s77 wx => s77 = .bool false ∧ Hid (Ws w wx [(yo, n2, yc, moved b by'), ((some ⟨g', p', none⟩), n1, xc, moved a by'), (bo, n2, c2, b), ((some ⟨g, p, none⟩), n1, c1, a)]))
        case first => as_aux_lemma =>
          have ew : IntKind.i64.wrap (fa + by') = fa + by' := IntWalk.i64_in _ (by omega)
          have tw : (fa + by' != fa + by') = false := by simp
          refine wp_region_held_drew (S := (fun W => Hid (Ws w W [(yo, n2, yc, moved b by'), ((some ⟨g', p', none⟩), n1, xc, moved a by'), (bo, n2, c2, b), ((some ⟨g, p, none⟩), n1, c1, a)]) ∧ W.cell? ⟨g, p, none⟩ = some (.int .i64 fa) ∧ W.cell? ⟨g', p', none⟩ = some (.int .i64 (fa + by')))) (by kernel_rfl) ?_ (fun hHeld => ?_)
          · exact ⟨Lib.hid (HT.out.keep (Below.refl _ _).drew), cell_keep c1' (Below.refl _ _).drew, cell_keep c2' (Below.refl _ _).drew⟩
          refine wpAnyH_take (i := 0) (oi := _) (v := ?_) rfl (by kernel_rfl) (by kernel_rfl) (by kernel_rfl) (fun _ _ _ h => h) (Or.inl ⟨by kernel_rfl, ?_⟩) (by assumption) ?_
          rotate_left 1
          focus (intro wq hSw; (try dsimp only at hSw); obtain ⟨s0, s1, s2⟩ := hSw; go_simp; (try with_reducible rfl); done)
          try simp only [List.getElem_toArray, List.getElem_cons_zero, List.getElem_cons_succ, Act.put, List.setIfInBounds_toArray, List.set_cons_zero, List.set_cons_succ]
          refine wpAnyH_ready (rs := [1]) (by kernel_rfl) (by simp) ?_
          refine AllReadyH.cons (o := _) rfl (fun K hK => ?_) AllReadyH.nil
          rw [if_pos (by kernel_rfl)]
          go_simp
          (go_at_call 14; (with_reducible refine (CR.out _ hHeld.1).mono ?_); rintro e z ⟨rfl, q⟩)
          first | refine hK.out _ _ ?_ (fun hHeld => ?_) | (go_wp2_with fail; refine hK.out _ _ ?_ (fun hHeld => ?_))
          · exact ⟨Lib.hid (hHeld.1.out.keep q), cell_keep hHeld.2.1 q, cell_keep hHeld.2.2 q⟩
          clear hK K
          try simp only [List.getElem_toArray, List.getElem_cons_zero, List.getElem_cons_succ, Act.put, List.setIfInBounds_toArray, List.set_cons_zero, List.set_cons_succ]
          refine wpAnyH_take (i := 2) (oi := _) (v := ?_) rfl (by kernel_rfl) (by kernel_rfl) (by kernel_rfl) (fun _ _ _ h => h) (Or.inl ⟨by kernel_rfl, ?_⟩) (by assumption) ?_
          rotate_left 1
          focus (intro wq hSw; (try dsimp only at hSw); obtain ⟨s0, s1, s2⟩ := hSw; go_simp; (try with_reducible rfl); done)
          try simp only [List.getElem_toArray, List.getElem_cons_zero, List.getElem_cons_succ, Act.put, List.setIfInBounds_toArray, List.set_cons_zero, List.set_cons_succ]
          refine wpAnyH_take (i := 3) (oi := _) (v := ?_) rfl (by kernel_rfl) (by kernel_rfl) (by kernel_rfl) (fun _ _ _ h => h) (Or.inl ⟨by kernel_rfl, ?_⟩) (by assumption) ?_
          rotate_left 1
          focus (intro wq hSw; (try dsimp only at hSw); obtain ⟨s0, s1, s2⟩ := hSw; go_simp; (try with_reducible rfl); done)
          try simp only [List.getElem_toArray, List.getElem_cons_zero, List.getElem_cons_succ, Act.put, List.setIfInBounds_toArray, List.set_cons_zero, List.set_cons_succ]
          refine wpAnyH_take (i := 4) (oi := _) (v := ?_) rfl (by kernel_rfl) (by kernel_rfl) (by kernel_rfl) (fun _ _ _ h => h) (Or.inl ⟨by kernel_rfl, ?_⟩) (by assumption) ?_
          rotate_left 1
          focus (intro wq hSw; (try dsimp only at hSw); obtain ⟨s0, s1, s2⟩ := hSw; go_simp; (try with_reducible rfl); done)
          try simp only [List.getElem_toArray, List.getElem_cons_zero, List.getElem_cons_succ, Act.put, List.setIfInBounds_toArray, List.set_cons_zero, List.set_cons_succ]
          refine wpAnyH_take (i := 6) (oi := _) (v := ?_) rfl (by kernel_rfl) (by kernel_rfl) (by kernel_rfl) (fun _ _ _ h => h) (Or.inl ⟨by kernel_rfl, ?_⟩) (by assumption) ?_
          rotate_left 1
          focus (intro wq hSw; (try dsimp only at hSw); obtain ⟨s0, s1, s2⟩ := hSw; go_simp; (try with_reducible rfl); done)
          try simp only [List.getElem_toArray, List.getElem_cons_zero, List.getElem_cons_succ, Act.put, List.setIfInBounds_toArray, List.set_cons_zero, List.set_cons_succ]
          refine wpAnyH_ready (rs := [5]) (by kernel_rfl) (by simp) ?_
          refine AllReadyH.cons (o := _) rfl (fun K hK => ?_) AllReadyH.nil
          rw [if_pos (by kernel_rfl)]
          go_simp
          (go_at_call 28; (with_reducible refine (CX.out _ hHeld.1).mono ?_); rintro e z ⟨rfl, q⟩)
          first | refine hK.out _ _ ?_ (fun hHeld => ?_) | (go_wp2_with fail; refine hK.out _ _ ?_ (fun hHeld => ?_))
          · exact ⟨Lib.hid (hHeld.1.out.keep q), cell_keep hHeld.2.1 q, cell_keep hHeld.2.2 q⟩
          clear hK K
          try simp only [List.getElem_toArray, List.getElem_cons_zero, List.getElem_cons_succ, Act.put, List.setIfInBounds_toArray, List.set_cons_zero, List.set_cons_succ]
          refine wpAnyH_ready (rs := [7]) (by kernel_rfl) (by simp) ?_
          refine AllReadyH.cons (o := _) rfl (fun K hK => ?_) AllReadyH.nil
          rw [if_pos (by kernel_rfl)]
          go_simp
          (go_at_call 28; (with_reducible refine (CA.out _ hHeld.1).mono ?_); rintro e z ⟨rfl, q⟩)
          first | refine hK.out _ _ ?_ (fun hHeld => ?_) | (go_wp2_with fail; refine hK.out _ _ ?_ (fun hHeld => ?_))
          · exact ⟨Lib.hid (hHeld.1.out.keep q), cell_keep hHeld.2.1 q, cell_keep hHeld.2.2 q⟩
          clear hK K
          try simp only [List.getElem_toArray, List.getElem_cons_zero, List.getElem_cons_succ, Act.put, List.setIfInBounds_toArray, List.set_cons_zero, List.set_cons_succ]
          refine wpAnyH_take (i := 8) (oi := _) (v := ?_) rfl (by kernel_rfl) (by kernel_rfl) (by kernel_rfl) (fun _ _ _ h => h) (Or.inl ⟨by kernel_rfl, ?_⟩) (by assumption) ?_
          rotate_left 1
          focus (intro wq hSw; (try dsimp only at hSw); obtain ⟨s0, s1, s2⟩ := hSw; go_simp; (try with_reducible rfl); done)
          try simp only [List.getElem_toArray, List.getElem_cons_zero, List.getElem_cons_succ, Act.put, List.setIfInBounds_toArray, List.set_cons_zero, List.set_cons_succ]
          refine wpAnyH_take (i := 9) (oi := _) (v := ?_) rfl (by kernel_rfl) (by kernel_rfl) (by kernel_rfl) (fun _ _ _ h => h) (Or.inl ⟨by kernel_rfl, ?_⟩) (by assumption) ?_
          rotate_left 1
          focus (intro wq hSw; (try dsimp only at hSw); obtain ⟨s0, s1, s2⟩ := hSw; go_simp; (try with_reducible rfl); done)
          try simp only [List.getElem_toArray, List.getElem_cons_zero, List.getElem_cons_succ, Act.put, List.setIfInBounds_toArray, List.set_cons_zero, List.set_cons_succ]
          refine wpAnyH_take (i := 10) (oi := _) (v := ?_) rfl (by kernel_rfl) (by kernel_rfl) (by kernel_rfl) (fun _ _ _ h => h) (Or.inl ⟨by kernel_rfl, ?_⟩) (by assumption) ?_
          rotate_left 1
          focus (intro wq hSw; (try dsimp only at hSw); obtain ⟨s0, s1, s2⟩ := hSw; go_simp; (try with_reducible rfl); done)
          try simp only [List.getElem_toArray, List.getElem_cons_zero, List.getElem_cons_succ, Act.put, List.setIfInBounds_toArray, List.set_cons_zero, List.set_cons_succ]
          refine wpAnyH_take (i := 11) (oi := _) (v := ?_) rfl (by kernel_rfl) (by kernel_rfl) (by kernel_rfl) (fun _ _ _ h => h) (Or.inl ⟨by kernel_rfl, ?_⟩) (by assumption) ?_
          rotate_left 1
          focus (intro wq hSw; (try dsimp only at hSw); obtain ⟨s0, s1, s2⟩ := hSw; go_simp; (try with_reducible rfl); done)
          try simp only [List.getElem_toArray, List.getElem_cons_zero, List.getElem_cons_succ, Act.put, List.setIfInBounds_toArray, List.set_cons_zero, List.set_cons_succ]
          refine wpAnyH_take (i := 12) (oi := _) (v := ?_) rfl (by kernel_rfl) (by kernel_rfl) (by kernel_rfl) (fun _ _ _ h => h) (Or.inl ⟨by kernel_rfl, ?_⟩) (by assumption) ?_
          rotate_left 1
          focus (intro wq hSw; (try dsimp only at hSw); obtain ⟨s0, s1, s2⟩ := hSw; go_simp; (try with_reducible rfl); done)
          try simp only [List.getElem_toArray, List.getElem_cons_zero, List.getElem_cons_succ, Act.put, List.setIfInBounds_toArray, List.set_cons_zero, List.set_cons_succ]
          refine wpAnyH_take (i := 13) (oi := _) (v := ?_) rfl (by kernel_rfl) (by kernel_rfl) (by kernel_rfl) (fun _ _ _ h => h) (Or.inl ⟨by kernel_rfl, ?_⟩) (by assumption) ?_
          rotate_left 1
          focus (intro wq hSw; (try dsimp only at hSw); obtain ⟨s0, s1, s2⟩ := hSw; go_simp; (try with_reducible rfl); done)
          try simp only [List.getElem_toArray, List.getElem_cons_zero, List.getElem_cons_succ, Act.put, List.setIfInBounds_toArray, List.set_cons_zero, List.set_cons_succ]
          refine wpAnyH_take (i := 14) (oi := _) (v := ?_) rfl (by kernel_rfl) (by kernel_rfl) (by kernel_rfl) (fun _ _ _ h => h) (Or.inl ⟨by kernel_rfl, ?_⟩) (by assumption) ?_
          rotate_left 1
          focus (intro wq hSw; (try dsimp only at hSw); obtain ⟨s0, s1, s2⟩ := hSw; go_simp; (try with_reducible rfl); done)
          try simp only [List.getElem_toArray, List.getElem_cons_zero, List.getElem_cons_succ, Act.put, List.setIfInBounds_toArray, List.set_cons_zero, List.set_cons_succ]
          refine wpAnyH_take (i := 15) (oi := _) (v := ?_) rfl (by kernel_rfl) (by kernel_rfl) (by kernel_rfl) (fun _ _ _ h => h) (Or.inl ⟨by kernel_rfl, ?_⟩) (by assumption) ?_
          rotate_left 1
          focus (intro wq hSw; (try dsimp only at hSw); obtain ⟨s0, s1, s2⟩ := hSw; go_simp; (try with_reducible rfl); done)
          try simp only [List.getElem_toArray, List.getElem_cons_zero, List.getElem_cons_succ, Act.put, List.setIfInBounds_toArray, List.set_cons_zero, List.set_cons_succ]
          refine wpAnyH_take (i := 16) (oi := _) (v := ?_) rfl (by kernel_rfl) (by kernel_rfl) (by kernel_rfl) (fun _ _ _ h => h) (Or.inl ⟨by kernel_rfl, ?_⟩) (by assumption) ?_
          rotate_left 1
          focus (intro wq hSw; (try dsimp only at hSw); obtain ⟨s0, s1, s2⟩ := hSw; go_simp; (try with_reducible rfl); done)
          try simp only [List.getElem_toArray, List.getElem_cons_zero, List.getElem_cons_succ, Act.put, List.setIfInBounds_toArray, List.set_cons_zero, List.set_cons_succ]
          refine wpAnyH_take (i := 17) (oi := _) (v := ?_) rfl (by kernel_rfl) (by kernel_rfl) (by kernel_rfl) (fun _ _ _ h => h) (Or.inl ⟨by kernel_rfl, ?_⟩) (by assumption) ?_
          rotate_left 1
          focus (intro wq hSw; (try dsimp only at hSw); obtain ⟨s0, s1, s2⟩ := hSw; go_simp; (try with_reducible rfl); done)
          try simp only [List.getElem_toArray, List.getElem_cons_zero, List.getElem_cons_succ, Act.put, List.setIfInBounds_toArray, List.set_cons_zero, List.set_cons_succ]
          refine wpAnyH_take (i := 18) (oi := _) (v := ?_) rfl (by kernel_rfl) (by kernel_rfl) (by kernel_rfl) (fun _ _ _ h => h) (Or.inl ⟨by kernel_rfl, ?_⟩) (by assumption) ?_
          rotate_left 1
          focus (intro wq hSw; (try dsimp only at hSw); obtain ⟨s0, s1, s2⟩ := hSw; go_simp; (try with_reducible rfl); done)
          try simp only [List.getElem_toArray, List.getElem_cons_zero, List.getElem_cons_succ, Act.put, List.setIfInBounds_toArray, List.set_cons_zero, List.set_cons_succ]
          refine wpAnyH_take (i := 19) (oi := _) (v := ?_) rfl (by kernel_rfl) (by kernel_rfl) (by kernel_rfl) (fun _ _ _ h => h) (Or.inl ⟨by kernel_rfl, ?_⟩) (by assumption) ?_
          rotate_left 1
          focus (intro wq hSw; (try dsimp only at hSw); obtain ⟨s0, s1, s2⟩ := hSw; go_simp; (try with_reducible rfl); done)
          try simp only [List.getElem_toArray, List.getElem_cons_zero, List.getElem_cons_succ, Act.put, List.setIfInBounds_toArray, List.set_cons_zero, List.set_cons_succ]
          refine wpAnyH_take (i := 20) (oi := _) (v := ?_) rfl (by kernel_rfl) (by kernel_rfl) (by kernel_rfl) (fun _ _ _ h => h) (Or.inl ⟨by kernel_rfl, ?_⟩) (by assumption) ?_
          rotate_left 1
          focus (intro wq hSw; (try dsimp only at hSw); obtain ⟨s0, s1, s2⟩ := hSw; go_simp; (try with_reducible rfl); done)
          try simp only [List.getElem_toArray, List.getElem_cons_zero, List.getElem_cons_succ, Act.put, List.setIfInBounds_toArray, List.set_cons_zero, List.set_cons_succ]
          refine wpAnyH_take (i := 21) (oi := _) (v := ?_) rfl (by kernel_rfl) (by kernel_rfl) (by kernel_rfl) (fun _ _ _ h => h) (Or.inl ⟨by kernel_rfl, ?_⟩) (by assumption) ?_
          rotate_left 1
          focus (intro wq hSw; (try dsimp only at hSw); obtain ⟨s0, s1, s2⟩ := hSw; go_simp; (try with_reducible rfl); done)
          try simp only [List.getElem_toArray, List.getElem_cons_zero, List.getElem_cons_succ, Act.put, List.setIfInBounds_toArray, List.set_cons_zero, List.set_cons_succ]
          refine wpAnyH_take (i := 22) (oi := _) (v := ?_) rfl (by kernel_rfl) (by kernel_rfl) (by kernel_rfl) (fun _ _ _ h => h) (Or.inl ⟨by kernel_rfl, ?_⟩) (by assumption) ?_
          rotate_left 1
          focus (intro wq hSw; (try dsimp only at hSw); obtain ⟨s0, s1, s2⟩ := hSw; go_simp; (try with_reducible rfl); done)
          try simp only [List.getElem_toArray, List.getElem_cons_zero, List.getElem_cons_succ, Act.put, List.setIfInBounds_toArray, List.set_cons_zero, List.set_cons_succ]
          refine wpAnyH_take (i := 23) (oi := _) (v := ?_) rfl (by kernel_rfl) (by kernel_rfl) (by kernel_rfl) (fun _ _ _ h => h) (Or.inl ⟨by kernel_rfl, ?_⟩) (by assumption) ?_
          rotate_left 1
          focus (intro wq hSw; (try dsimp only at hSw); obtain ⟨s0, s1, s2⟩ := hSw; go_simp; (try with_reducible rfl); done)
          try simp only [List.getElem_toArray, List.getElem_cons_zero, List.getElem_cons_succ, Act.put, List.setIfInBounds_toArray, List.set_cons_zero, List.set_cons_succ]
          refine wpAnyH_take (i := 24) (oi := _) (v := ?_) rfl (by kernel_rfl) (by kernel_rfl) (by kernel_rfl) (fun _ _ _ h => h) (Or.inl ⟨by kernel_rfl, ?_⟩) (by assumption) ?_
          rotate_left 1
          focus (intro wq hSw; (try dsimp only at hSw); obtain ⟨s0, s1, s2⟩ := hSw; go_simp; (try with_reducible rfl); done)
          try simp only [List.getElem_toArray, List.getElem_cons_zero, List.getElem_cons_succ, Act.put, List.setIfInBounds_toArray, List.set_cons_zero, List.set_cons_succ]
          refine wpAnyH_take (i := 25) (oi := _) (v := ?_) rfl (by kernel_rfl) (by kernel_rfl) (by kernel_rfl) (fun _ _ _ h => h) (Or.inl ⟨by kernel_rfl, ?_⟩) (by assumption) ?_
          rotate_left 1
          focus (intro wq hSw; (try dsimp only at hSw); obtain ⟨s0, s1, s2⟩ := hSw; go_simp; (try with_reducible rfl); done)
          try simp only [List.getElem_toArray, List.getElem_cons_zero, List.getElem_cons_succ, Act.put, List.setIfInBounds_toArray, List.set_cons_zero, List.set_cons_succ]
          refine wpAnyH_take (i := 26) (oi := _) (v := ?_) rfl (by kernel_rfl) (by kernel_rfl) (by kernel_rfl) (fun _ _ _ h => h) (Or.inl ⟨by kernel_rfl, ?_⟩) (by assumption) ?_
          rotate_left 1
          focus (intro wq hSw; (try dsimp only at hSw); obtain ⟨s0, s1, s2⟩ := hSw; go_simp; (try with_reducible rfl); done)
          try simp only [List.getElem_toArray, List.getElem_cons_zero, List.getElem_cons_succ, Act.put, List.setIfInBounds_toArray, List.set_cons_zero, List.set_cons_succ]
          refine wpAnyH_take (i := 27) (oi := _) (v := ?_) rfl (by kernel_rfl) (by kernel_rfl) (by kernel_rfl) (fun _ _ _ h => h) (Or.inl ⟨by kernel_rfl, ?_⟩) (by assumption) ?_
          rotate_left 1
          focus (intro wq hSw; (try dsimp only at hSw); obtain ⟨s0, s1, s2⟩ := hSw; go_simp; (try with_reducible rfl); done)
          try simp only [List.getElem_toArray, List.getElem_cons_zero, List.getElem_cons_succ, Act.put, List.setIfInBounds_toArray, List.set_cons_zero, List.set_cons_succ]
          refine wpAnyH_done (by kernel_rfl) ?_ _
          go_wp2_with fail
          go_meet
          exact ⟨rfl, hHeld.1⟩
        case rest =>
        obtain ⟨rfl, HT⟩ := hcut
        clear CR CX CA
        have t1 : (by' != -9223372036854775808) = true := by simp; omega
        have t0 : (0 : Int) < (n1 : Int) := by omega
        go_wp2_with fail
        (with_reducible refine (move_right' (moved a by') Gx.out (-by') (by omega) (by omega) (ok_back Ga.out) (some ⟨g', p', none⟩) n1 xc (by have := Na.out; omega) _ (HT.out.at (some ⟨g', p', none⟩) n1 xc (moved a by') (List.Mem.tail _ (List.Mem.head _)))).mono ?_)
        rintro e z ⟨vo, vc, rfl, HX, q⟩
        rw [moved_back] at HX
        have HT := Lib.hid (HT.out.add q HX.out)
        clear q HX
        go_wp2_with fail
        (with_reducible refine (same_any vo (some ⟨g, p, none⟩) n1 vc n1 c1 a a _ (HT.out.at vo n1 vc (a) (List.Mem.head _)) (HT.out.at (some ⟨g, p, none⟩) n1 c1 (a) (List.Mem.tail _ (List.Mem.tail _ (List.Mem.tail _ (List.Mem.tail _ (List.Mem.head _)))))) true (by simp)).mono ?_)
        rintro e z ⟨rfl, q⟩
        have HT := Lib.hid (HT.out.keep q); clear q
        have Gy := Lib.hid (good_moved by' Gb.out HB.out)
        go_wp2_with fail
        (with_reducible refine (cut_sp (some ⟨g, p, none⟩) bo n1 c1 n2 c2 a b Ga.out Gb.out (by have := Na.out; omega) (by have := Nb.out; omega) _ (HT.out.at (some ⟨g, p, none⟩) n1 c1 (a) (List.Mem.tail _ (List.Mem.tail _ (List.Mem.tail _ (List.Mem.tail _ (List.Mem.head _)))))) (HT.out.at bo n2 c2 (b) (List.Mem.tail _ (List.Mem.tail _ (List.Mem.tail _ (List.Mem.head _)))))).mono ?_)
        rintro e z ⟨ocu, ncu, ccu, cu, rfl, Hcu, q⟩
        have HT := Lib.hid (HT.out.add q Hcu.out.2.2.2)
        have Gcu := Lib.hid Hcu.out.1
        have Mcu := Lib.hid Hcu.out.2.1
        have Ncu : Hid (ncu ≤ 160) := Lib.hid (by have := Hcu.out.2.2.1; have := Na.out; have := Nb.out; omega)
        clear q Hcu
        have HC : Hid (∀ s ∈ cu, okSp by' s) := Lib.hid (ok_of_mem Gcu.out (fun t h => ok_mem HA.out ((Mcu.out t).1 h).1))
        go_wp2_with fail
        (with_reducible refine (move_right' cu Gcu.out by' hb1 hb2 HC.out ocu ncu ccu (by have := Ncu.out; omega) _ (HT.out.at ocu ncu ccu (cu) (List.Mem.head _))).mono ?_)
        rintro e z ⟨zo, zc, rfl, HX, q⟩
        have HT := Lib.hid (HT.out.add q HX.out)
        clear q HX
        have Gz := Lib.hid (good_moved by' Gcu.out HC.out)
        go_wp2_with fail
        (with_reducible refine (cut_sp (some ⟨g', p', none⟩) yo n1 xc n2 yc (moved a by') (moved b by') Gx.out Gy.out (by have := Na.out; omega) (by have := Nb.out; omega) _ (HT.out.at (some ⟨g', p', none⟩) n1 xc (moved a by') (List.Mem.tail _ (List.Mem.tail _ (List.Mem.tail _ (List.Mem.tail _ (List.Mem.head _)))))) (HT.out.at yo n2 yc (moved b by') (List.Mem.tail _ (List.Mem.tail _ (List.Mem.tail _ (List.Mem.head _)))))).mono ?_)
        rintro e z ⟨ko, nk, kc, ck, rfl, Hck, q⟩
        have HT := Lib.hid (HT.out.add q Hck.out.2.2.2)
        clear q
        go_wp2_with fail
        (with_reducible refine (same_any zo ko ncu zc nk kc (moved cu by') ck _ (HT.out.at zo ncu zc (moved cu by') (List.Mem.tail _ (List.Mem.head _))) (HT.out.at ko nk kc (ck) (List.Mem.head _)) true (by simp only [true_iff]; refine same_mem Gz.out Hck.out.1 (fun t => ?_); rw [Hck.out.2.1 t, mem_moved, mem_moved, mem_moved, Mcu.out])).mono ?_)
        rintro e z ⟨rfl, q⟩
        have HT := Lib.hid (HT.out.keep q); clear q
        obtain ⟨pq, hp⟩ : ∃ r : Bool, Hid (r = true ↔ Ahd a b) := by classical exact ⟨decide _, Lib.hid decide_eq_true_iff⟩
        go_wp2_with fail
        (with_reducible refine (ahead_any (some ⟨g', p', none⟩) yo n1 xc n2 yc (moved a by') (moved b by') _ (HT.out.at (some ⟨g', p', none⟩) n1 xc (moved a by') (List.Mem.tail _ (List.Mem.tail _ (List.Mem.tail _ (List.Mem.tail _ (List.Mem.tail _ (List.Mem.head _))))))) (HT.out.at yo n2 yc (moved b by') (List.Mem.tail _ (List.Mem.tail _ (List.Mem.tail _ (List.Mem.tail _ (List.Mem.head _)))))) Gx.out Gy.out pq (hp.out.trans (ahd_moved a b by').symm)).mono ?_)
        rintro e z ⟨rfl, q⟩
        have HT := Lib.hid (HT.out.keep q); clear q
        go_wp2_with fail
        (with_reducible refine (ahead_any (some ⟨g, p, none⟩) bo n1 c1 n2 c2 a b _ (HT.out.at (some ⟨g, p, none⟩) n1 c1 (a) (List.Mem.tail _ (List.Mem.tail _ (List.Mem.tail _ (List.Mem.tail _ (List.Mem.tail _ (List.Mem.tail _ (List.Mem.tail _ (List.Mem.head _))))))))) (HT.out.at bo n2 c2 (b) (List.Mem.tail _ (List.Mem.tail _ (List.Mem.tail _ (List.Mem.tail _ (List.Mem.tail _ (List.Mem.tail _ (List.Mem.head _)))))))) Ga.out Gb.out pq hp.out).mono ?_)
        rintro e z ⟨rfl, q⟩
        have HT := Lib.hid (HT.out.keep q); clear q
        have t3 : (pq == pq) = true := by simp
        go_wp2_with fail
        (with_reducible refine (awake_any _).mono ?_)
        rintro e z ⟨rfl, q⟩
        have HT := Lib.hid (HT.out.keep q); clear q
        go_wp2
        go_returns
        exact ⟨rfl, HT.out.bw⟩
    · have HB := Lib.hid hB
      clear hB
      by_cases hne : a = []
      · obtain rfl : n1 = 0 := by have := LA.out; rw [hne] at this; simpa using this.symm
        clear hne
        go_wp2_with fail
        (with_reducible refine (move_right' a Ga.out by' hb1 hb2 HA.out ao 0 c1 (by have := Na.out; omega) _ (HT.out.at ao 0 c1 (a) (List.Mem.tail _ (List.Mem.head _)))).mono ?_)
        rintro e z ⟨xo, xc, rfl, HX, q⟩
        have HT := Lib.hid (HT.out.add q HX.out)
        clear q HX
        have Nx := Na
        go_wp2_with fail
        (with_reducible refine (move_wrong b Gb.out by' hb1 hb2 HB.out bo n2 c2 (by have := Nb.out; omega) _ (HT.out.at bo n2 c2 (b) (List.Mem.tail _ (List.Mem.head _)))).mono ?_)
        rintro e z ⟨rfl, q⟩
        have HT := Lib.hid (HT.out.keep q); clear q
        have Gx := Lib.hid (good_moved by' Ga.out HA.out)
        obtain ⟨C, hC⟩ : ∃ z : Int, Hid (count a = z ∧ count (moved a by') = z) := ⟨_, Lib.hid ⟨rfl, count_moved a by'⟩⟩
        have tC : (C != C) = false := by simp
        have CR := Lib.hid (fun W (HT : Hid (Ws w W [(xo, 0, xc, moved a by'), (bo, n2, c2, b), (ao, 0, c1, a)])) => right_any xo 0 xc (moved a by') W (HT.out.at xo 0 xc (moved a by') (List.Mem.head _)) true (by simp only [true_iff]; exact Gx.out))
        have CX := Lib.hid (fun W (HT : Hid (Ws w W [(xo, 0, xc, moved a by'), (bo, n2, c2, b), (ao, 0, c1, a)])) => count_is xo 0 xc (moved a by') W (HT.out.at xo 0 xc (moved a by') (List.Mem.head _)) Gx.out C hC.out.2)
        have CA := Lib.hid (fun W (HT : Hid (Ws w W [(xo, 0, xc, moved a by'), (bo, n2, c2, b), (ao, 0, c1, a)])) => count_is ao 0 c1 a W (HT.out.at ao 0 c1 (a) (List.Mem.tail _ (List.Mem.tail _ (List.Mem.head _)))) Ga.out C hC.out.1)
        go_upto_region 6 with fail
        go_cut [77] (fun s77 wx => s77 = .bool false ∧ Hid (Ws w wx [(xo, 0, xc, moved a by'), (bo, n2, c2, b), (ao, 0, c1, a)]))
        case first => as_aux_lemma =>
          refine wp_region_held_drew (S := (fun W => Hid (Ws w W [(xo, 0, xc, moved a by'), (bo, n2, c2, b), (ao, 0, c1, a)]) ∧ True)) (by kernel_rfl) ?_ (fun hHeld => ?_)
          · exact ⟨Lib.hid (HT.out.keep (Below.refl _ _).drew), trivial⟩
          refine wpAnyH_take (i := 0) (oi := _) (v := ?_) rfl (by kernel_rfl) (by kernel_rfl) (by kernel_rfl) (fun _ _ _ h => h) (Or.inl ⟨by kernel_rfl, ?_⟩) (by assumption) ?_
          rotate_left 1
          focus (intro wq hSw; (try dsimp only at hSw); obtain ⟨s0, s1⟩ := hSw; go_simp; (try with_reducible rfl); done)
          try simp only [List.getElem_toArray, List.getElem_cons_zero, List.getElem_cons_succ, Act.put, List.setIfInBounds_toArray, List.set_cons_zero, List.set_cons_succ]
          refine wpAnyH_ready (rs := [1]) (by kernel_rfl) (by simp) ?_
          refine AllReadyH.cons (o := _) rfl (fun K hK => ?_) AllReadyH.nil
          rw [if_pos (by kernel_rfl)]
          go_simp
          (go_at_call 14; (with_reducible refine (CR.out _ hHeld.1).mono ?_); rintro e z ⟨rfl, q⟩)
          first | refine hK.out _ _ ?_ (fun hHeld => ?_) | (go_wp2_with fail; refine hK.out _ _ ?_ (fun hHeld => ?_))
          · exact ⟨Lib.hid (hHeld.1.out.keep q), trivial⟩
          clear hK K
          try simp only [List.getElem_toArray, List.getElem_cons_zero, List.getElem_cons_succ, Act.put, List.setIfInBounds_toArray, List.set_cons_zero, List.set_cons_succ]
          refine wpAnyH_take (i := 2) (oi := _) (v := ?_) rfl (by kernel_rfl) (by kernel_rfl) (by kernel_rfl) (fun _ _ _ h => h) (Or.inl ⟨by kernel_rfl, ?_⟩) (by assumption) ?_
          rotate_left 1
          focus (intro wq hSw; (try dsimp only at hSw); obtain ⟨s0, s1⟩ := hSw; go_simp; (try with_reducible rfl); done)
          try simp only [List.getElem_toArray, List.getElem_cons_zero, List.getElem_cons_succ, Act.put, List.setIfInBounds_toArray, List.set_cons_zero, List.set_cons_succ]
          refine wpAnyH_take (i := 3) (oi := _) (v := ?_) rfl (by kernel_rfl) (by kernel_rfl) (by kernel_rfl) (fun _ _ _ h => h) (Or.inl ⟨by kernel_rfl, ?_⟩) (by assumption) ?_
          rotate_left 1
          focus (intro wq hSw; (try dsimp only at hSw); obtain ⟨s0, s1⟩ := hSw; go_simp; (try with_reducible rfl); done)
          try simp only [List.getElem_toArray, List.getElem_cons_zero, List.getElem_cons_succ, Act.put, List.setIfInBounds_toArray, List.set_cons_zero, List.set_cons_succ]
          refine wpAnyH_take (i := 4) (oi := _) (v := ?_) rfl (by kernel_rfl) (by kernel_rfl) (by kernel_rfl) (fun _ _ _ h => h) (Or.inl ⟨by kernel_rfl, ?_⟩) (by assumption) ?_
          rotate_left 1
          focus (intro wq hSw; (try dsimp only at hSw); obtain ⟨s0, s1⟩ := hSw; go_simp; (try with_reducible rfl); done)
          try simp only [List.getElem_toArray, List.getElem_cons_zero, List.getElem_cons_succ, Act.put, List.setIfInBounds_toArray, List.set_cons_zero, List.set_cons_succ]
          refine wpAnyH_take (i := 6) (oi := _) (v := ?_) rfl (by kernel_rfl) (by kernel_rfl) (by kernel_rfl) (fun _ _ _ h => h) (Or.inl ⟨by kernel_rfl, ?_⟩) (by assumption) ?_
          rotate_left 1
          focus (intro wq hSw; (try dsimp only at hSw); obtain ⟨s0, s1⟩ := hSw; go_simp; (try with_reducible rfl); done)
          try simp only [List.getElem_toArray, List.getElem_cons_zero, List.getElem_cons_succ, Act.put, List.setIfInBounds_toArray, List.set_cons_zero, List.set_cons_succ]
          refine wpAnyH_ready (rs := [5]) (by kernel_rfl) (by simp) ?_
          refine AllReadyH.cons (o := _) rfl (fun K hK => ?_) AllReadyH.nil
          rw [if_pos (by kernel_rfl)]
          go_simp
          (go_at_call 28; (with_reducible refine (CX.out _ hHeld.1).mono ?_); rintro e z ⟨rfl, q⟩)
          first | refine hK.out _ _ ?_ (fun hHeld => ?_) | (go_wp2_with fail; refine hK.out _ _ ?_ (fun hHeld => ?_))
          · exact ⟨Lib.hid (hHeld.1.out.keep q), trivial⟩
          clear hK K
          try simp only [List.getElem_toArray, List.getElem_cons_zero, List.getElem_cons_succ, Act.put, List.setIfInBounds_toArray, List.set_cons_zero, List.set_cons_succ]
          refine wpAnyH_ready (rs := [7]) (by kernel_rfl) (by simp) ?_
          refine AllReadyH.cons (o := _) rfl (fun K hK => ?_) AllReadyH.nil
          rw [if_pos (by kernel_rfl)]
          go_simp
          (go_at_call 28; (with_reducible refine (CA.out _ hHeld.1).mono ?_); rintro e z ⟨rfl, q⟩)
          first | refine hK.out _ _ ?_ (fun hHeld => ?_) | (go_wp2_with fail; refine hK.out _ _ ?_ (fun hHeld => ?_))
          · exact ⟨Lib.hid (hHeld.1.out.keep q), trivial⟩
          clear hK K
          try simp only [List.getElem_toArray, List.getElem_cons_zero, List.getElem_cons_succ, Act.put, List.setIfInBounds_toArray, List.set_cons_zero, List.set_cons_succ]
          refine wpAnyH_take (i := 8) (oi := _) (v := ?_) rfl (by kernel_rfl) (by kernel_rfl) (by kernel_rfl) (fun _ _ _ h => h) (Or.inl ⟨by kernel_rfl, ?_⟩) (by assumption) ?_
          rotate_left 1
          focus (intro wq hSw; (try dsimp only at hSw); obtain ⟨s0, s1⟩ := hSw; go_simp; (try with_reducible rfl); done)
          try simp only [List.getElem_toArray, List.getElem_cons_zero, List.getElem_cons_succ, Act.put, List.setIfInBounds_toArray, List.set_cons_zero, List.set_cons_succ]
          refine wpAnyH_take (i := 9) (oi := _) (v := ?_) rfl (by kernel_rfl) (by kernel_rfl) (by kernel_rfl) (fun _ _ _ h => h) (Or.inl ⟨by kernel_rfl, ?_⟩) (by assumption) ?_
          rotate_left 1
          focus (intro wq hSw; (try dsimp only at hSw); obtain ⟨s0, s1⟩ := hSw; go_simp; (try with_reducible rfl); done)
          try simp only [List.getElem_toArray, List.getElem_cons_zero, List.getElem_cons_succ, Act.put, List.setIfInBounds_toArray, List.set_cons_zero, List.set_cons_succ]
          refine wpAnyH_take (i := 10) (oi := _) (v := ?_) rfl (by kernel_rfl) (by kernel_rfl) (by kernel_rfl) (fun _ _ _ h => h) (Or.inl ⟨by kernel_rfl, ?_⟩) (by assumption) ?_
          rotate_left 1
          focus (intro wq hSw; (try dsimp only at hSw); obtain ⟨s0, s1⟩ := hSw; go_simp; (try with_reducible rfl); done)
          try simp only [List.getElem_toArray, List.getElem_cons_zero, List.getElem_cons_succ, Act.put, List.setIfInBounds_toArray, List.set_cons_zero, List.set_cons_succ]
          refine wpAnyH_take (i := 11) (oi := _) (v := ?_) rfl (by kernel_rfl) (by kernel_rfl) (by kernel_rfl) (fun _ _ _ h => h) (Or.inl ⟨by kernel_rfl, ?_⟩) (by assumption) ?_
          rotate_left 1
          focus (intro wq hSw; (try dsimp only at hSw); obtain ⟨s0, s1⟩ := hSw; go_simp; (try with_reducible rfl); done)
          try simp only [List.getElem_toArray, List.getElem_cons_zero, List.getElem_cons_succ, Act.put, List.setIfInBounds_toArray, List.set_cons_zero, List.set_cons_succ]
          refine wpAnyH_take (i := 12) (oi := _) (v := ?_) rfl (by kernel_rfl) (by kernel_rfl) (by kernel_rfl) (fun _ _ _ h => h) (Or.inl ⟨by kernel_rfl, ?_⟩) (by assumption) ?_
          rotate_left 1
          focus (intro wq hSw; (try dsimp only at hSw); obtain ⟨s0, s1⟩ := hSw; go_simp; (try with_reducible rfl); done)
          try simp only [List.getElem_toArray, List.getElem_cons_zero, List.getElem_cons_succ, Act.put, List.setIfInBounds_toArray, List.set_cons_zero, List.set_cons_succ]
          refine wpAnyH_take (i := 13) (oi := _) (v := ?_) rfl (by kernel_rfl) (by kernel_rfl) (by kernel_rfl) (fun _ _ _ h => h) (Or.inl ⟨by kernel_rfl, ?_⟩) (by assumption) ?_
          rotate_left 1
          focus (intro wq hSw; (try dsimp only at hSw); obtain ⟨s0, s1⟩ := hSw; go_simp; (try with_reducible rfl); done)
          try simp only [List.getElem_toArray, List.getElem_cons_zero, List.getElem_cons_succ, Act.put, List.setIfInBounds_toArray, List.set_cons_zero, List.set_cons_succ]
          refine wpAnyH_take (i := 14) (oi := _) (v := ?_) rfl (by kernel_rfl) (by kernel_rfl) (by kernel_rfl) (fun _ _ _ h => h) (Or.inl ⟨by kernel_rfl, ?_⟩) (by assumption) ?_
          rotate_left 1
          focus (intro wq hSw; (try dsimp only at hSw); obtain ⟨s0, s1⟩ := hSw; go_simp; (try with_reducible rfl); done)
          try simp only [List.getElem_toArray, List.getElem_cons_zero, List.getElem_cons_succ, Act.put, List.setIfInBounds_toArray, List.set_cons_zero, List.set_cons_succ]
          refine wpAnyH_take (i := 15) (oi := _) (v := undef) rfl (by kernel_rfl) (by kernel_rfl) (by kernel_rfl) (fun _ _ _ h => h) (Or.inr ⟨by kernel_rfl, rfl⟩) (by assumption) ?_
          try simp only [List.getElem_toArray, List.getElem_cons_zero, List.getElem_cons_succ, Act.put, List.setIfInBounds_toArray, List.set_cons_zero, List.set_cons_succ]
          refine wpAnyH_take (i := 16) (oi := _) (v := undef) rfl (by kernel_rfl) (by kernel_rfl) (by kernel_rfl) (fun _ _ _ h => h) (Or.inr ⟨by kernel_rfl, rfl⟩) (by assumption) ?_
          try simp only [List.getElem_toArray, List.getElem_cons_zero, List.getElem_cons_succ, Act.put, List.setIfInBounds_toArray, List.set_cons_zero, List.set_cons_succ]
          refine wpAnyH_take (i := 17) (oi := _) (v := undef) rfl (by kernel_rfl) (by kernel_rfl) (by kernel_rfl) (fun _ _ _ h => h) (Or.inr ⟨by kernel_rfl, rfl⟩) (by assumption) ?_
          try simp only [List.getElem_toArray, List.getElem_cons_zero, List.getElem_cons_succ, Act.put, List.setIfInBounds_toArray, List.set_cons_zero, List.set_cons_succ]
          refine wpAnyH_take (i := 18) (oi := _) (v := undef) rfl (by kernel_rfl) (by kernel_rfl) (by kernel_rfl) (fun _ _ _ h => h) (Or.inr ⟨by kernel_rfl, rfl⟩) (by assumption) ?_
          try simp only [List.getElem_toArray, List.getElem_cons_zero, List.getElem_cons_succ, Act.put, List.setIfInBounds_toArray, List.set_cons_zero, List.set_cons_succ]
          refine wpAnyH_take (i := 19) (oi := _) (v := undef) rfl (by kernel_rfl) (by kernel_rfl) (by kernel_rfl) (fun _ _ _ h => h) (Or.inr ⟨by kernel_rfl, rfl⟩) (by assumption) ?_
          try simp only [List.getElem_toArray, List.getElem_cons_zero, List.getElem_cons_succ, Act.put, List.setIfInBounds_toArray, List.set_cons_zero, List.set_cons_succ]
          refine wpAnyH_take (i := 20) (oi := _) (v := undef) rfl (by kernel_rfl) (by kernel_rfl) (by kernel_rfl) (fun _ _ _ h => h) (Or.inr ⟨by kernel_rfl, rfl⟩) (by assumption) ?_
          try simp only [List.getElem_toArray, List.getElem_cons_zero, List.getElem_cons_succ, Act.put, List.setIfInBounds_toArray, List.set_cons_zero, List.set_cons_succ]
          refine wpAnyH_take (i := 21) (oi := _) (v := undef) rfl (by kernel_rfl) (by kernel_rfl) (by kernel_rfl) (fun _ _ _ h => h) (Or.inr ⟨by kernel_rfl, rfl⟩) (by assumption) ?_
          try simp only [List.getElem_toArray, List.getElem_cons_zero, List.getElem_cons_succ, Act.put, List.setIfInBounds_toArray, List.set_cons_zero, List.set_cons_succ]
          refine wpAnyH_take (i := 22) (oi := _) (v := undef) rfl (by kernel_rfl) (by kernel_rfl) (by kernel_rfl) (fun _ _ _ h => h) (Or.inr ⟨by kernel_rfl, rfl⟩) (by assumption) ?_
          try simp only [List.getElem_toArray, List.getElem_cons_zero, List.getElem_cons_succ, Act.put, List.setIfInBounds_toArray, List.set_cons_zero, List.set_cons_succ]
          refine wpAnyH_take (i := 23) (oi := _) (v := undef) rfl (by kernel_rfl) (by kernel_rfl) (by kernel_rfl) (fun _ _ _ h => h) (Or.inr ⟨by kernel_rfl, rfl⟩) (by assumption) ?_
          try simp only [List.getElem_toArray, List.getElem_cons_zero, List.getElem_cons_succ, Act.put, List.setIfInBounds_toArray, List.set_cons_zero, List.set_cons_succ]
          refine wpAnyH_take (i := 24) (oi := _) (v := undef) rfl (by kernel_rfl) (by kernel_rfl) (by kernel_rfl) (fun _ _ _ h => h) (Or.inr ⟨by kernel_rfl, rfl⟩) (by assumption) ?_
          try simp only [List.getElem_toArray, List.getElem_cons_zero, List.getElem_cons_succ, Act.put, List.setIfInBounds_toArray, List.set_cons_zero, List.set_cons_succ]
          refine wpAnyH_take (i := 25) (oi := _) (v := undef) rfl (by kernel_rfl) (by kernel_rfl) (by kernel_rfl) (fun _ _ _ h => h) (Or.inr ⟨by kernel_rfl, rfl⟩) (by assumption) ?_
          try simp only [List.getElem_toArray, List.getElem_cons_zero, List.getElem_cons_succ, Act.put, List.setIfInBounds_toArray, List.set_cons_zero, List.set_cons_succ]
          refine wpAnyH_take (i := 26) (oi := _) (v := ?_) rfl (by kernel_rfl) (by kernel_rfl) (by kernel_rfl) (fun _ _ _ h => h) (Or.inl ⟨by kernel_rfl, ?_⟩) (by assumption) ?_
          rotate_left 1
          focus (intro wq hSw; (try dsimp only at hSw); obtain ⟨s0, s1⟩ := hSw; go_simp; (try with_reducible rfl); done)
          try simp only [List.getElem_toArray, List.getElem_cons_zero, List.getElem_cons_succ, Act.put, List.setIfInBounds_toArray, List.set_cons_zero, List.set_cons_succ]
          refine wpAnyH_take (i := 27) (oi := _) (v := ?_) rfl (by kernel_rfl) (by kernel_rfl) (by kernel_rfl) (fun _ _ _ h => h) (Or.inl ⟨by kernel_rfl, ?_⟩) (by assumption) ?_
          rotate_left 1
          focus (intro wq hSw; (try dsimp only at hSw); obtain ⟨s0, s1⟩ := hSw; go_simp; (try with_reducible rfl); done)
          try simp only [List.getElem_toArray, List.getElem_cons_zero, List.getElem_cons_succ, Act.put, List.setIfInBounds_toArray, List.set_cons_zero, List.set_cons_succ]
          refine wpAnyH_done (by kernel_rfl) ?_ _
          go_wp2_with fail
          go_meet
          exact ⟨rfl, hHeld.1⟩
        case rest =>
        obtain ⟨rfl, HT⟩ := hcut
        clear CR CX CA
        go_wp2_with fail
        (with_reducible refine (awake_any _).mono ?_)
        rintro e z ⟨rfl, q⟩
        have HT := Lib.hid (HT.out.keep q); clear q
        go_wp2
        go_returns
        exact ⟨rfl, HT.out.bw⟩
      · have hn0 : 0 < n1 := by have := LA.out; have := List.length_pos_iff.2 hne; omega
        go_wp2_with fail
        (with_reducible refine (move_right' a Ga.out by' hb1 hb2 HA.out ao n1 c1 (by have := Na.out; omega) _ (HT.out.at ao n1 c1 (a) (List.Mem.tail _ (List.Mem.head _)))).mono ?_)
        rintro e z ⟨xo, xc, rfl, HX, q⟩
        have HT := Lib.hid (HT.out.add q HX.out)
        clear q HX
        have Nx := Na
        go_wp2_with fail
        (with_reducible refine (move_wrong b Gb.out by' hb1 hb2 HB.out bo n2 c2 (by have := Nb.out; omega) _ (HT.out.at bo n2 c2 (b) (List.Mem.tail _ (List.Mem.head _)))).mono ?_)
        rintro e z ⟨rfl, q⟩
        have HT := Lib.hid (HT.out.keep q); clear q
        have Gx := Lib.hid (good_moved by' Ga.out HA.out)
        obtain ⟨g, p, rfl, _⟩ := (HT.out.at ao n1 c1 (a) (List.Mem.tail _ (List.Mem.tail _ (List.Mem.head _)))).here hn0
        obtain ⟨g', p', rfl, _⟩ := (HT.out.at xo n1 xc (moved a by') (List.Mem.head _)).here hn0
        obtain ⟨fa, hfa⟩ : ∃ z : Int, Hid (hullA a = z ∧ hullA (moved a by') = z + by') := ⟨_, Lib.hid ⟨rfl, hullA_moved a by' hne⟩⟩
        obtain ⟨f1, f2⟩ : -1099511627776 ≤ fa ∧ fa ≤ 1099511627776 := by have := hull_mem Ga.out hne; rw [hfa.out.1] at this; omega
        obtain ⟨f3, f4⟩ : -2199023255552 ≤ by' ∧ by' ≤ 2199023255552 := ok_span Ga.out HA.out hne
        have c1' := (HT.out.at (some ⟨g, p, none⟩) n1 c1 (a) (List.Mem.tail _ (List.Mem.tail _ (List.Mem.head _)))).first hn0; rw [hfa.out.1] at c1'
        have c2' := (HT.out.at (some ⟨g', p', none⟩) n1 xc (moved a by') (List.Mem.head _)).first hn0; rw [hfa.out.2] at c2'
        obtain ⟨C, hC⟩ : ∃ z : Int, Hid (count a = z ∧ count (moved a by') = z) := ⟨_, Lib.hid ⟨rfl, count_moved a by'⟩⟩
        have tC : (C != C) = false := by simp
        have CR := Lib.hid (fun W (HT : Hid (Ws w W [((some ⟨g', p', none⟩), n1, xc, moved a by'), (bo, n2, c2, b), ((some ⟨g, p, none⟩), n1, c1, a)])) => right_any (some ⟨g', p', none⟩) n1 xc (moved a by') W (HT.out.at (some ⟨g', p', none⟩) n1 xc (moved a by') (List.Mem.head _)) true (by simp only [true_iff]; exact Gx.out))
        have CX := Lib.hid (fun W (HT : Hid (Ws w W [((some ⟨g', p', none⟩), n1, xc, moved a by'), (bo, n2, c2, b), ((some ⟨g, p, none⟩), n1, c1, a)])) => count_is (some ⟨g', p', none⟩) n1 xc (moved a by') W (HT.out.at (some ⟨g', p', none⟩) n1 xc (moved a by') (List.Mem.head _)) Gx.out C hC.out.2)
        have CA := Lib.hid (fun W (HT : Hid (Ws w W [((some ⟨g', p', none⟩), n1, xc, moved a by'), (bo, n2, c2, b), ((some ⟨g, p, none⟩), n1, c1, a)])) => count_is (some ⟨g, p, none⟩) n1 c1 a W (HT.out.at (some ⟨g, p, none⟩) n1 c1 (a) (List.Mem.tail _ (List.Mem.tail _ (List.Mem.head _)))) Ga.out C hC.out.1)
        go_upto_region 6 with fail
        go_cut [77] (fun s77 wx => s77 = .bool false ∧ Hid (Ws w wx [((some ⟨g', p', none⟩), n1, xc, moved a by'), (bo, n2, c2, b), ((some ⟨g, p, none⟩), n1, c1, a)]))
        case first => as_aux_lemma =>
          have ew : IntKind.i64.wrap (fa + by') = fa + by' := IntWalk.i64_in _ (by omega)
          have tw : (fa + by' != fa + by') = false := by simp
          refine wp_region_held_drew (S := (fun W => Hid (Ws w W [((some ⟨g', p', none⟩), n1, xc, moved a by'), (bo, n2, c2, b), ((some ⟨g, p, none⟩), n1, c1, a)]) ∧ W.cell? ⟨g, p, none⟩ = some (.int .i64 fa) ∧ W.cell? ⟨g', p', none⟩ = some (.int .i64 (fa + by')))) (by kernel_rfl) ?_ (fun hHeld => ?_)
          · exact ⟨Lib.hid (HT.out.keep (Below.refl _ _).drew), cell_keep c1' (Below.refl _ _).drew, cell_keep c2' (Below.refl _ _).drew⟩
          refine wpAnyH_take (i := 0) (oi := _) (v := ?_) rfl (by kernel_rfl) (by kernel_rfl) (by kernel_rfl) (fun _ _ _ h => h) (Or.inl ⟨by kernel_rfl, ?_⟩) (by assumption) ?_
          rotate_left 1
          focus (intro wq hSw; (try dsimp only at hSw); obtain ⟨s0, s1, s2⟩ := hSw; go_simp; (try with_reducible rfl); done)
          try simp only [List.getElem_toArray, List.getElem_cons_zero, List.getElem_cons_succ, Act.put, List.setIfInBounds_toArray, List.set_cons_zero, List.set_cons_succ]
          refine wpAnyH_ready (rs := [1]) (by kernel_rfl) (by simp) ?_
          refine AllReadyH.cons (o := _) rfl (fun K hK => ?_) AllReadyH.nil
          rw [if_pos (by kernel_rfl)]
          go_simp
          (go_at_call 14; (with_reducible refine (CR.out _ hHeld.1).mono ?_); rintro e z ⟨rfl, q⟩)
          first | refine hK.out _ _ ?_ (fun hHeld => ?_) | (go_wp2_with fail; refine hK.out _ _ ?_ (fun hHeld => ?_))
          · exact ⟨Lib.hid (hHeld.1.out.keep q), cell_keep hHeld.2.1 q, cell_keep hHeld.2.2 q⟩
          clear hK K
          try simp only [List.getElem_toArray, List.getElem_cons_zero, List.getElem_cons_succ, Act.put, List.setIfInBounds_toArray, List.set_cons_zero, List.set_cons_succ]
          refine wpAnyH_take (i := 2) (oi := _) (v := ?_) rfl (by kernel_rfl) (by kernel_rfl) (by kernel_rfl) (fun _ _ _ h => h) (Or.inl ⟨by kernel_rfl, ?_⟩) (by assumption) ?_
          rotate_left 1
          focus (intro wq hSw; (try dsimp only at hSw); obtain ⟨s0, s1, s2⟩ := hSw; go_simp; (try with_reducible rfl); done)
          try simp only [List.getElem_toArray, List.getElem_cons_zero, List.getElem_cons_succ, Act.put, List.setIfInBounds_toArray, List.set_cons_zero, List.set_cons_succ]
          refine wpAnyH_take (i := 3) (oi := _) (v := ?_) rfl (by kernel_rfl) (by kernel_rfl) (by kernel_rfl) (fun _ _ _ h => h) (Or.inl ⟨by kernel_rfl, ?_⟩) (by assumption) ?_
          rotate_left 1
          focus (intro wq hSw; (try dsimp only at hSw); obtain ⟨s0, s1, s2⟩ := hSw; go_simp; (try with_reducible rfl); done)
          try simp only [List.getElem_toArray, List.getElem_cons_zero, List.getElem_cons_succ, Act.put, List.setIfInBounds_toArray, List.set_cons_zero, List.set_cons_succ]
          refine wpAnyH_take (i := 4) (oi := _) (v := ?_) rfl (by kernel_rfl) (by kernel_rfl) (by kernel_rfl) (fun _ _ _ h => h) (Or.inl ⟨by kernel_rfl, ?_⟩) (by assumption) ?_
          rotate_left 1
          focus (intro wq hSw; (try dsimp only at hSw); obtain ⟨s0, s1, s2⟩ := hSw; go_simp; (try with_reducible rfl); done)
          try simp only [List.getElem_toArray, List.getElem_cons_zero, List.getElem_cons_succ, Act.put, List.setIfInBounds_toArray, List.set_cons_zero, List.set_cons_succ]
          refine wpAnyH_take (i := 6) (oi := _) (v := ?_) rfl (by kernel_rfl) (by kernel_rfl) (by kernel_rfl) (fun _ _ _ h => h) (Or.inl ⟨by kernel_rfl, ?_⟩) (by assumption) ?_
          rotate_left 1
          focus (intro wq hSw; (try dsimp only at hSw); obtain ⟨s0, s1, s2⟩ := hSw; go_simp; (try with_reducible rfl); done)
          try simp only [List.getElem_toArray, List.getElem_cons_zero, List.getElem_cons_succ, Act.put, List.setIfInBounds_toArray, List.set_cons_zero, List.set_cons_succ]
          refine wpAnyH_ready (rs := [5]) (by kernel_rfl) (by simp) ?_
          refine AllReadyH.cons (o := _) rfl (fun K hK => ?_) AllReadyH.nil
          rw [if_pos (by kernel_rfl)]
          go_simp
          (go_at_call 28; (with_reducible refine (CX.out _ hHeld.1).mono ?_); rintro e z ⟨rfl, q⟩)
          first | refine hK.out _ _ ?_ (fun hHeld => ?_) | (go_wp2_with fail; refine hK.out _ _ ?_ (fun hHeld => ?_))
          · exact ⟨Lib.hid (hHeld.1.out.keep q), cell_keep hHeld.2.1 q, cell_keep hHeld.2.2 q⟩
          clear hK K
          try simp only [List.getElem_toArray, List.getElem_cons_zero, List.getElem_cons_succ, Act.put, List.setIfInBounds_toArray, List.set_cons_zero, List.set_cons_succ]
          refine wpAnyH_ready (rs := [7]) (by kernel_rfl) (by simp) ?_
          refine AllReadyH.cons (o := _) rfl (fun K hK => ?_) AllReadyH.nil
          rw [if_pos (by kernel_rfl)]
          go_simp
          (go_at_call 28; (with_reducible refine (CA.out _ hHeld.1).mono ?_); rintro e z ⟨rfl, q⟩)
          first | refine hK.out _ _ ?_ (fun hHeld => ?_) | (go_wp2_with fail; refine hK.out _ _ ?_ (fun hHeld => ?_))
          · exact ⟨Lib.hid (hHeld.1.out.keep q), cell_keep hHeld.2.1 q, cell_keep hHeld.2.2 q⟩
          clear hK K
          try simp only [List.getElem_toArray, List.getElem_cons_zero, List.getElem_cons_succ, Act.put, List.setIfInBounds_toArray, List.set_cons_zero, List.set_cons_succ]
          refine wpAnyH_take (i := 8) (oi := _) (v := ?_) rfl (by kernel_rfl) (by kernel_rfl) (by kernel_rfl) (fun _ _ _ h => h) (Or.inl ⟨by kernel_rfl, ?_⟩) (by assumption) ?_
          rotate_left 1
          focus (intro wq hSw; (try dsimp only at hSw); obtain ⟨s0, s1, s2⟩ := hSw; go_simp; (try with_reducible rfl); done)
          try simp only [List.getElem_toArray, List.getElem_cons_zero, List.getElem_cons_succ, Act.put, List.setIfInBounds_toArray, List.set_cons_zero, List.set_cons_succ]
          refine wpAnyH_take (i := 9) (oi := _) (v := ?_) rfl (by kernel_rfl) (by kernel_rfl) (by kernel_rfl) (fun _ _ _ h => h) (Or.inl ⟨by kernel_rfl, ?_⟩) (by assumption) ?_
          rotate_left 1
          focus (intro wq hSw; (try dsimp only at hSw); obtain ⟨s0, s1, s2⟩ := hSw; go_simp; (try with_reducible rfl); done)
          try simp only [List.getElem_toArray, List.getElem_cons_zero, List.getElem_cons_succ, Act.put, List.setIfInBounds_toArray, List.set_cons_zero, List.set_cons_succ]
          refine wpAnyH_take (i := 10) (oi := _) (v := ?_) rfl (by kernel_rfl) (by kernel_rfl) (by kernel_rfl) (fun _ _ _ h => h) (Or.inl ⟨by kernel_rfl, ?_⟩) (by assumption) ?_
          rotate_left 1
          focus (intro wq hSw; (try dsimp only at hSw); obtain ⟨s0, s1, s2⟩ := hSw; go_simp; (try with_reducible rfl); done)
          try simp only [List.getElem_toArray, List.getElem_cons_zero, List.getElem_cons_succ, Act.put, List.setIfInBounds_toArray, List.set_cons_zero, List.set_cons_succ]
          refine wpAnyH_take (i := 11) (oi := _) (v := ?_) rfl (by kernel_rfl) (by kernel_rfl) (by kernel_rfl) (fun _ _ _ h => h) (Or.inl ⟨by kernel_rfl, ?_⟩) (by assumption) ?_
          rotate_left 1
          focus (intro wq hSw; (try dsimp only at hSw); obtain ⟨s0, s1, s2⟩ := hSw; go_simp; (try with_reducible rfl); done)
          try simp only [List.getElem_toArray, List.getElem_cons_zero, List.getElem_cons_succ, Act.put, List.setIfInBounds_toArray, List.set_cons_zero, List.set_cons_succ]
          refine wpAnyH_take (i := 12) (oi := _) (v := ?_) rfl (by kernel_rfl) (by kernel_rfl) (by kernel_rfl) (fun _ _ _ h => h) (Or.inl ⟨by kernel_rfl, ?_⟩) (by assumption) ?_
          rotate_left 1
          focus (intro wq hSw; (try dsimp only at hSw); obtain ⟨s0, s1, s2⟩ := hSw; go_simp; (try with_reducible rfl); done)
          try simp only [List.getElem_toArray, List.getElem_cons_zero, List.getElem_cons_succ, Act.put, List.setIfInBounds_toArray, List.set_cons_zero, List.set_cons_succ]
          refine wpAnyH_take (i := 13) (oi := _) (v := ?_) rfl (by kernel_rfl) (by kernel_rfl) (by kernel_rfl) (fun _ _ _ h => h) (Or.inl ⟨by kernel_rfl, ?_⟩) (by assumption) ?_
          rotate_left 1
          focus (intro wq hSw; (try dsimp only at hSw); obtain ⟨s0, s1, s2⟩ := hSw; go_simp; (try with_reducible rfl); done)
          try simp only [List.getElem_toArray, List.getElem_cons_zero, List.getElem_cons_succ, Act.put, List.setIfInBounds_toArray, List.set_cons_zero, List.set_cons_succ]
          refine wpAnyH_take (i := 14) (oi := _) (v := ?_) rfl (by kernel_rfl) (by kernel_rfl) (by kernel_rfl) (fun _ _ _ h => h) (Or.inl ⟨by kernel_rfl, ?_⟩) (by assumption) ?_
          rotate_left 1
          focus (intro wq hSw; (try dsimp only at hSw); obtain ⟨s0, s1, s2⟩ := hSw; go_simp; (try with_reducible rfl); done)
          try simp only [List.getElem_toArray, List.getElem_cons_zero, List.getElem_cons_succ, Act.put, List.setIfInBounds_toArray, List.set_cons_zero, List.set_cons_succ]
          refine wpAnyH_take (i := 15) (oi := _) (v := ?_) rfl (by kernel_rfl) (by kernel_rfl) (by kernel_rfl) (fun _ _ _ h => h) (Or.inl ⟨by kernel_rfl, ?_⟩) (by assumption) ?_
          rotate_left 1
          focus (intro wq hSw; (try dsimp only at hSw); obtain ⟨s0, s1, s2⟩ := hSw; go_simp; (try with_reducible rfl); done)
          try simp only [List.getElem_toArray, List.getElem_cons_zero, List.getElem_cons_succ, Act.put, List.setIfInBounds_toArray, List.set_cons_zero, List.set_cons_succ]
          refine wpAnyH_take (i := 16) (oi := _) (v := ?_) rfl (by kernel_rfl) (by kernel_rfl) (by kernel_rfl) (fun _ _ _ h => h) (Or.inl ⟨by kernel_rfl, ?_⟩) (by assumption) ?_
          rotate_left 1
          focus (intro wq hSw; (try dsimp only at hSw); obtain ⟨s0, s1, s2⟩ := hSw; go_simp; (try with_reducible rfl); done)
          try simp only [List.getElem_toArray, List.getElem_cons_zero, List.getElem_cons_succ, Act.put, List.setIfInBounds_toArray, List.set_cons_zero, List.set_cons_succ]
          refine wpAnyH_take (i := 17) (oi := _) (v := ?_) rfl (by kernel_rfl) (by kernel_rfl) (by kernel_rfl) (fun _ _ _ h => h) (Or.inl ⟨by kernel_rfl, ?_⟩) (by assumption) ?_
          rotate_left 1
          focus (intro wq hSw; (try dsimp only at hSw); obtain ⟨s0, s1, s2⟩ := hSw; go_simp; (try with_reducible rfl); done)
          try simp only [List.getElem_toArray, List.getElem_cons_zero, List.getElem_cons_succ, Act.put, List.setIfInBounds_toArray, List.set_cons_zero, List.set_cons_succ]
          refine wpAnyH_take (i := 18) (oi := _) (v := ?_) rfl (by kernel_rfl) (by kernel_rfl) (by kernel_rfl) (fun _ _ _ h => h) (Or.inl ⟨by kernel_rfl, ?_⟩) (by assumption) ?_
          rotate_left 1
          focus (intro wq hSw; (try dsimp only at hSw); obtain ⟨s0, s1, s2⟩ := hSw; go_simp; (try with_reducible rfl); done)
          try simp only [List.getElem_toArray, List.getElem_cons_zero, List.getElem_cons_succ, Act.put, List.setIfInBounds_toArray, List.set_cons_zero, List.set_cons_succ]
          refine wpAnyH_take (i := 19) (oi := _) (v := ?_) rfl (by kernel_rfl) (by kernel_rfl) (by kernel_rfl) (fun _ _ _ h => h) (Or.inl ⟨by kernel_rfl, ?_⟩) (by assumption) ?_
          rotate_left 1
          focus (intro wq hSw; (try dsimp only at hSw); obtain ⟨s0, s1, s2⟩ := hSw; go_simp; (try with_reducible rfl); done)
          try simp only [List.getElem_toArray, List.getElem_cons_zero, List.getElem_cons_succ, Act.put, List.setIfInBounds_toArray, List.set_cons_zero, List.set_cons_succ]
          refine wpAnyH_take (i := 20) (oi := _) (v := ?_) rfl (by kernel_rfl) (by kernel_rfl) (by kernel_rfl) (fun _ _ _ h => h) (Or.inl ⟨by kernel_rfl, ?_⟩) (by assumption) ?_
          rotate_left 1
          focus (intro wq hSw; (try dsimp only at hSw); obtain ⟨s0, s1, s2⟩ := hSw; go_simp; (try with_reducible rfl); done)
          try simp only [List.getElem_toArray, List.getElem_cons_zero, List.getElem_cons_succ, Act.put, List.setIfInBounds_toArray, List.set_cons_zero, List.set_cons_succ]
          refine wpAnyH_take (i := 21) (oi := _) (v := ?_) rfl (by kernel_rfl) (by kernel_rfl) (by kernel_rfl) (fun _ _ _ h => h) (Or.inl ⟨by kernel_rfl, ?_⟩) (by assumption) ?_
          rotate_left 1
          focus (intro wq hSw; (try dsimp only at hSw); obtain ⟨s0, s1, s2⟩ := hSw; go_simp; (try with_reducible rfl); done)
          try simp only [List.getElem_toArray, List.getElem_cons_zero, List.getElem_cons_succ, Act.put, List.setIfInBounds_toArray, List.set_cons_zero, List.set_cons_succ]
          refine wpAnyH_take (i := 22) (oi := _) (v := ?_) rfl (by kernel_rfl) (by kernel_rfl) (by kernel_rfl) (fun _ _ _ h => h) (Or.inl ⟨by kernel_rfl, ?_⟩) (by assumption) ?_
          rotate_left 1
          focus (intro wq hSw; (try dsimp only at hSw); obtain ⟨s0, s1, s2⟩ := hSw; go_simp; (try with_reducible rfl); done)
          try simp only [List.getElem_toArray, List.getElem_cons_zero, List.getElem_cons_succ, Act.put, List.setIfInBounds_toArray, List.set_cons_zero, List.set_cons_succ]
          refine wpAnyH_take (i := 23) (oi := _) (v := ?_) rfl (by kernel_rfl) (by kernel_rfl) (by kernel_rfl) (fun _ _ _ h => h) (Or.inl ⟨by kernel_rfl, ?_⟩) (by assumption) ?_
          rotate_left 1
          focus (intro wq hSw; (try dsimp only at hSw); obtain ⟨s0, s1, s2⟩ := hSw; go_simp; (try with_reducible rfl); done)
          try simp only [List.getElem_toArray, List.getElem_cons_zero, List.getElem_cons_succ, Act.put, List.setIfInBounds_toArray, List.set_cons_zero, List.set_cons_succ]
          refine wpAnyH_take (i := 24) (oi := _) (v := ?_) rfl (by kernel_rfl) (by kernel_rfl) (by kernel_rfl) (fun _ _ _ h => h) (Or.inl ⟨by kernel_rfl, ?_⟩) (by assumption) ?_
          rotate_left 1
          focus (intro wq hSw; (try dsimp only at hSw); obtain ⟨s0, s1, s2⟩ := hSw; go_simp; (try with_reducible rfl); done)
          try simp only [List.getElem_toArray, List.getElem_cons_zero, List.getElem_cons_succ, Act.put, List.setIfInBounds_toArray, List.set_cons_zero, List.set_cons_succ]
          refine wpAnyH_take (i := 25) (oi := _) (v := ?_) rfl (by kernel_rfl) (by kernel_rfl) (by kernel_rfl) (fun _ _ _ h => h) (Or.inl ⟨by kernel_rfl, ?_⟩) (by assumption) ?_
          rotate_left 1
          focus (intro wq hSw; (try dsimp only at hSw); obtain ⟨s0, s1, s2⟩ := hSw; go_simp; (try with_reducible rfl); done)
          try simp only [List.getElem_toArray, List.getElem_cons_zero, List.getElem_cons_succ, Act.put, List.setIfInBounds_toArray, List.set_cons_zero, List.set_cons_succ]
          refine wpAnyH_take (i := 26) (oi := _) (v := ?_) rfl (by kernel_rfl) (by kernel_rfl) (by kernel_rfl) (fun _ _ _ h => h) (Or.inl ⟨by kernel_rfl, ?_⟩) (by assumption) ?_
          rotate_left 1
          focus (intro wq hSw; (try dsimp only at hSw); obtain ⟨s0, s1, s2⟩ := hSw; go_simp; (try with_reducible rfl); done)
          try simp only [List.getElem_toArray, List.getElem_cons_zero, List.getElem_cons_succ, Act.put, List.setIfInBounds_toArray, List.set_cons_zero, List.set_cons_succ]
          refine wpAnyH_take (i := 27) (oi := _) (v := ?_) rfl (by kernel_rfl) (by kernel_rfl) (by kernel_rfl) (fun _ _ _ h => h) (Or.inl ⟨by kernel_rfl, ?_⟩) (by assumption) ?_
          rotate_left 1
          focus (intro wq hSw; (try dsimp only at hSw); obtain ⟨s0, s1, s2⟩ := hSw; go_simp; (try with_reducible rfl); done)
          try simp only [List.getElem_toArray, List.getElem_cons_zero, List.getElem_cons_succ, Act.put, List.setIfInBounds_toArray, List.set_cons_zero, List.set_cons_succ]
          refine wpAnyH_done (by kernel_rfl) ?_ _
          go_wp2_with fail
          go_meet
          exact ⟨rfl, hHeld.1⟩
        case rest =>
        obtain ⟨rfl, HT⟩ := hcut
        clear CR CX CA
        have t1 : (by' != -9223372036854775808) = true := by simp; omega
        have t0 : (0 : Int) < (n1 : Int) := by omega
        go_wp2_with fail
        (with_reducible refine (move_right' (moved a by') Gx.out (-by') (by omega) (by omega) (ok_back Ga.out) (some ⟨g', p', none⟩) n1 xc (by have := Na.out; omega) _ (HT.out.at (some ⟨g', p', none⟩) n1 xc (moved a by') (List.Mem.head _))).mono ?_)
        rintro e z ⟨vo, vc, rfl, HX, q⟩
        rw [moved_back] at HX
        have HT := Lib.hid (HT.out.add q HX.out)
        clear q HX
        go_wp2_with fail
        (with_reducible refine (same_any vo (some ⟨g, p, none⟩) n1 vc n1 c1 a a _ (HT.out.at vo n1 vc (a) (List.Mem.head _)) (HT.out.at (some ⟨g, p, none⟩) n1 c1 (a) (List.Mem.tail _ (List.Mem.tail _ (List.Mem.tail _ (List.Mem.head _))))) true (by simp)).mono ?_)
        rintro e z ⟨rfl, q⟩
        have HT := Lib.hid (HT.out.keep q); clear q
        go_wp2_with fail
        (with_reducible refine (awake_any _).mono ?_)
        rintro e z ⟨rfl, q⟩
        have HT := Lib.hid (HT.out.keep q); clear q
        go_wp2
        go_returns
        exact ⟨rfl, HT.out.bw⟩
  · have MA := Lib.hid (move_wrong a Ga.out by' hb1 hb2 hA ao n1 c1 (by have := Na.out; omega) w2 (HT.out.at ao n1 c1 a (by simp)))
    have hn : (0 : Int) < (n1 : Int) := by
      have : a ≠ [] := fun h => hA (by subst h; intro s hs; cases hs)
      have := List.length_pos_iff.2 this
      have := LA.out
      omega
    have MB := Lib.hid (fun W (h : Ws w W [(bo, n2, c2, b), (ao, n1, c1, a)]) => move_v b Gb.out by' hb1 hb2 bo n2 c2 (by have := Nb.out; omega) W (h.at bo n2 c2 b (by simp)))
    clear hA
    go_wp2_with (first
      | (go_at_call 31; (with_reducible refine (MA.out).mono ?_); rintro e w3 ⟨rfl, q⟩; have HT := Lib.hid (HT.out.keep q); clear q)
      | (go_at_call 31; (with_reducible refine (MB.out _ HT.out).mono ?_); rintro e w4 ⟨v, k, rfl, q⟩; have HT := Lib.hid (HT.out.keep q); clear q)
      | (go_at_call 9; (with_reducible refine (awake_any _).mono ?_); rintro e w5 ⟨rfl, q⟩; have HT := Lib.hid (HT.out.keep q); clear q))
    go_returns
    exact ⟨rfl, HT.out.bw⟩
end Go.Proofs.Ythjpnnggghfepaa
