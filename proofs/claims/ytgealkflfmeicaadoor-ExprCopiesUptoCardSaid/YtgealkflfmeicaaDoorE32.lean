/- ExprTells: the walk. -/
import Derived.Test.YtgealkflfmeicaaDoorE31
import Derived.Test.YtgealkflfmeicaaDoorE27
import Derived.Test.YtgealkflfmeicaaDoorE29
import Derived.Test.YtgealkflfmeicaaDoorE33
namespace Go.Proofs.YtgealkflfmeicaaDoor
set_option linter.unusedVariables false
set_option linter.unusedSimpArgs false
open Go.ChangeShapes Go.WideShapes Go.ChangeAt Go.RowKit
theorem sml_of {B : Nat} {l : List (Pt × Int)} (h : SmB B l) (hB : B ≤ 1048576) : SmL l := fun p hp => ⟨Nat.le_trans (h p hp).1 hB, Nat.le_trans (h p hp).2 hB⟩
theorem op_any (o : Int) (h0 : 0 ≤ o) : ∃ (N A : Int) (ok : Bool), (0 ≤ N ∧ N ≤ 3) ∧ (0 ≤ A ∧ A ≤ 2) ∧ ∀ W, Tabn W → (Calls Tryd.prog 8 #[.int .u8 o] W fun e w' => e = .returned (.tuple #[.int .i64 N, .bool ok]) ∧ W = w') ∧ (Calls Tryd.prog 9 #[.int .u8 o] W fun e w' => e = .returned (.tuple #[.int .i64 N, .bool ok]) ∧ W = w') ∧ (Calls Tryd.prog 10 #[.int .u8 o] W fun e w' => e = .returned (.int .i64 A) ∧ W = w') ∧ (Calls Tryd.prog 11 #[.int .u8 o] W fun e w' => e = .returned (.int .i64 A) ∧ W = w') := by
  by_cases h : 12 < o
  · exact ⟨0, 0, false, by decide, by decide, fun W hT => ⟨nums_out o W h, rnums_out o W h, args_out o W h, rargs_out o W h⟩⟩
  · obtain ⟨i, rfl⟩ := Int.eq_ofNat_of_zero_le h0
    have hi : i < 13 := by omega
    have a := aN_bd i hi
    exact ⟨nN i, aN i, true, nN_bd i hi, ⟨a.1, a.2.1⟩, fun W hT => ⟨nums_in i W hT hi, rnums_in i W hi, args_in i W hT hi, rargs_in i W hi⟩⟩
set_option maxRecDepth 8000 in
set_option maxHeartbeats 4000000 in
theorem exprTells_walk (o : Int) (n : Nat) (v : Value) (F : Tour) (m : Nat) (u : Value) (G : Tour) (w : World) (hT : Tabn w) (o0 : 0 ≤ o) (o1 : o ≤ 255) (hF : ExAt w n v F) (hn : n ≤ 1048576) (lF : (F 1).length ≤ 1048576) (sF : SmL (F 1)) (hG : ExAt w m u G) (hm : m ≤ 1048576) (lG : (G 1).length ≤ 1048576) (sG : SmL (G 1)) :
    Calls Tryd.prog 3 #[.int .u8 o, v, u] w fun e w' => e = .returned (.bool true) ∧ Below w.heap.size w w' := by
  obtain ⟨p, an, nn, nc, aa, ac, rfl, _⟩ := hF.head
  obtain ⟨q, bn, mn, mc, ba, bc, rfl, _⟩ := hG.head
  obtain ⟨N, A, ok, hN, hA, hop⟩ := op_any o o0
  obtain ⟨N0, N1⟩ := hN
  obtain ⟨A0, A1⟩ := hA
  have HOP := Lib.hid hop
  clear hop
  obtain ⟨r, hr⟩ : ∃ r : Bool, r = true ↔ RightL (F 1) := by classical exact ⟨decide _, decide_eq_true_iff⟩
  obtain ⟨s, hs⟩ : ∃ s : Bool, s = true ↔ F = G := by classical exact ⟨decide _, decide_eq_true_iff⟩
  obtain ⟨xb, hxb⟩ : ∃ z, w.heap.size = z := ⟨_, rfl⟩
  have C6 := Lib.hid (fun W (h : En w W xb p q an aa bn ba nn nc ac mn mc bc n m F G) => small_any n _ F W h.ex lF)
  have C6y := Lib.hid (fun W (h : En w W xb p q an aa bn ba nn nc ac mn mc bc n m F G) => small_any m _ G W h.ey lG)
  have C12 := Lib.hid (fun W (h : En w W xb p q an aa bn ba nn nc ac mn mc bc n m F G) => count_any n _ F W h.ex (by omega) (by omega))
  have C13 := Lib.hid (fun W (h : En w W xb p q an aa bn ba nn nc ac mn mc bc n m F G) => rcount_any n _ F W h.ex lF)
  have C14 := Lib.hid (fun W (h : En w W xb p q an aa bn ba nn nc ac mn mc bc n m F G) => depth_any n _ F W h.ex (by omega) (by omega))
  have C15 := Lib.hid (fun W (h : En w W xb p q an aa bn ba nn nc ac mn mc bc n m F G) => rdepth_any n _ F W h.ex hn)
  have C16 := Lib.hid (fun W (h : En w W xb p q an aa bn ba nn nc ac mn mc bc n m F G) => right_any n _ F W h.tab h.ex (by omega) (by omega) r hr)
  have C17 := Lib.hid (fun W (h : En w W xb p q an aa bn ba nn nc ac mn mc bc n m F G) => rright_any n _ F W h.ex hn lF r hr)
  have C18 := Lib.hid (fun W (h : En w W xb p q an aa bn ba nn nc ac mn mc bc n m F G) => same_any n _ F m _ G W h.ex h.ey s hs)
  have C19 := Lib.hid (fun W (h : En w W xb p q an aa bn ba nn nc ac mn mc bc n m F G) => rsame_any n _ F m _ G W h.ex h.ey s hs)
  have C21 := Lib.hid (fun W (h : En w W xb p q an aa bn ba nn nc ac mn mc bc n m F G) => names_any n _ F W h.ex (by omega) (by omega))
  have C22 := Lib.hid (fun W (h : En w W xb p q an aa bn ba nn nc ac mn mc bc n m F G) => rnames_any n _ F W h.ex lF)
  have C23 := Lib.hid (fun W (h : En w W xb p q an aa bn ba nn nc ac mn mc bc n m F G) => copy_any n _ F W h.ex sF lF)
  have CC := Lib.hid (fun W v' (h : En w W xb p q an aa bn ba nn nc ac mn mc bc n m F G) (h' : ExAt W n v' F) => rsame_any n v' F n _ F W h' h.ex true ⟨fun _ => rfl, fun _ => rfl⟩)
  rw [dfold_run] at C14
  obtain ⟨Lx, hLx⟩ : ∃ z, ((F 1).length : Int) = z := ⟨_, rfl⟩
  obtain ⟨Ly, hLy⟩ : ∃ z, ((G 1).length : Int) = z := ⟨_, rfl⟩
  obtain ⟨Dx, hDx⟩ : ∃ z, dfold 0 (F 1) = z := ⟨_, rfl⟩
  obtain ⟨Nx, hNx⟩ : ∃ z, nmsOf (F 1) = z := ⟨_, rfl⟩
  rw [hLx] at C6 C12 C13
  rw [hLy] at C6y
  rw [hDx] at C14 C15
  rw [hNx] at C21 C22
  obtain ⟨w1, hw1⟩ : ∃ z, (w.alloc (.cells #[.int .u8 p.op, .string p.nm, .slice an nn nc, .slice aa p.k ac] 25)).alloc (.cells #[.int .u8 q.op, .string q.nm, .slice bn mn mc, .slice ba q.k bc] 25) = z := ⟨_, rfl⟩
  have KA : Below w.heap.size w w1 := by rw [← hw1]; exact ((Below.refl _ w).alloc (Nat.le_refl _) _).alloc (by simp) _
  have HE : Hid (En w w1 xb p q an aa bn ba nn nc ac mn mc bc n m F G) := Lib.hid ⟨KA, hT.keep KA, by rw [← hw1, al_old _ _ (by simp; omega), ← hxb, al_new], by rw [← hw1, show xb + 1 = (w.alloc (.cells #[.int .u8 p.op, .string p.nm, .slice an nn nc, .slice aa p.k ac] 25)).heap.size by simp; omega, al_new], hF.keep KA, hG.keep KA⟩
  clear KA hT hF hG hn hm lF lG sF sG hr hs hLx hLy hDx hNx
  have x0 := cell_blk HE.out.xa 0
  have x1 := cell_blk HE.out.xa 1
  have x2 := cell_blk HE.out.xa 2
  have x3 := cell_blk HE.out.xa 3
  have y0 := cell_blk HE.out.ya 0
  have y1 := cell_blk HE.out.ya 1
  have y2 := cell_blk HE.out.ya 2
  have y3 := cell_blk HE.out.ya 3
  go_enter Tryd.func3, Tryd.ntmps3
  go_wp2_with fail
  (with_reducible refine (C6.out _ HE.out).mono ?_)
  rintro e w2 ⟨rfl, k1⟩
  have HE := Lib.hid (HE.out.keep k1)
  clear x0 x1 x2 x3 y0 y1 y2 y3
  clear k1 hw1 hxb C6
  by_cases c1 : Lx ≤ 3000
  · have d1 : decide (Lx ≤ 3000) = true := decide_eq_true c1
    have x0 := cell_blk HE.out.xa 0
    have x1 := cell_blk HE.out.xa 1
    have x2 := cell_blk HE.out.xa 2
    have x3 := cell_blk HE.out.xa 3
    have y0 := cell_blk HE.out.ya 0
    have y1 := cell_blk HE.out.ya 1
    have y2 := cell_blk HE.out.ya 2
    have y3 := cell_blk HE.out.ya 3
    go_wp2_with fail
    (with_reducible refine (C6y.out _ HE.out).mono ?_)
    rintro e w3 ⟨rfl, k1⟩
    have HE := Lib.hid (HE.out.keep k1)
    clear x0 x1 x2 x3 y0 y1 y2 y3
    clear k1 C6y
    by_cases c2 : Ly ≤ 3000
    · have d2 : decide (Ly ≤ 3000) = true := decide_eq_true c2
      have P8 := Lib.hid (HOP.out w3 HE.out.tab).1
      have P9 := Lib.hid (HOP.out w3 HE.out.tab).2.1
      have P10 := Lib.hid (HOP.out w3 HE.out.tab).2.2.1
      have P11 := Lib.hid (HOP.out w3 HE.out.tab).2.2.2
      clear HOP
      go_wp2_with (first | ((with_reducible refine P8.out.mono ?_); rintro e w4 ⟨rfl, rfl⟩) | ((with_reducible refine P9.out.mono ?_); rintro e w4 ⟨rfl, rfl⟩) | ((with_reducible refine P10.out.mono ?_); rintro e w4 ⟨rfl, rfl⟩) | ((with_reducible refine P11.out.mono ?_); rintro e w4 ⟨rfl, rfl⟩))
      clear P8 P9 P10 P11
      go_upto_region 7 with fail
      refine wp_region_held_drew (S := (fun W => W.cell? ⟨xb, 0, none⟩ = some (.int .u8 p.op) ∧ W.cell? ⟨xb, 1, none⟩ = some (.string p.nm) ∧ W.cell? ⟨xb, 2, none⟩ = some (.slice an nn nc) ∧ W.cell? ⟨xb, 3, none⟩ = some (.slice aa p.k ac) ∧ W.cell? ⟨xb + 1, 0, none⟩ = some (.int .u8 q.op) ∧ W.cell? ⟨xb + 1, 1, none⟩ = some (.string q.nm) ∧ W.cell? ⟨xb + 1, 2, none⟩ = some (.slice bn mn mc) ∧ W.cell? ⟨xb + 1, 3, none⟩ = some (.slice ba q.k bc) ∧ Hid (En w W xb p q an aa bn ba nn nc ac mn mc bc n m F G))) (by kernel_rfl) ?_ (fun hHeld => ?_)
      · exact ⟨cell_blk (HE.out.keep (Below.refl _ _).drew).xa 0, cell_blk (HE.out.keep (Below.refl _ _).drew).xa 1, cell_blk (HE.out.keep (Below.refl _ _).drew).xa 2, cell_blk (HE.out.keep (Below.refl _ _).drew).xa 3, cell_blk (HE.out.keep (Below.refl _ _).drew).ya 0, cell_blk (HE.out.keep (Below.refl _ _).drew).ya 1, cell_blk (HE.out.keep (Below.refl _ _).drew).ya 2, cell_blk (HE.out.keep (Below.refl _ _).drew).ya 3, Lib.hid (HE.out.keep (Below.refl _ _).drew)⟩
      refine wpAnyH_take (i := 0) (oi := _) (v := ?_) rfl (by kernel_rfl) (by kernel_rfl) (by kernel_rfl) (fun _ _ _ h => h) (Or.inl ⟨by kernel_rfl, ?_⟩) (by assumption) ?_
      rotate_left 1
      focus (intro wq hSw; (try dsimp only at hSw); obtain ⟨s0, s1, s2, s3, s4, s5, s6, s7, s8⟩ := hSw; go_simp; (try with_reducible rfl); done)
      try simp only [List.getElem_toArray, List.getElem_cons_zero, List.getElem_cons_succ, Act.put, List.setIfInBounds_toArray, List.set_cons_zero, List.set_cons_succ]
      refine wpAnyH_take (i := 2) (oi := _) (v := ?_) rfl (by kernel_rfl) (by kernel_rfl) (by kernel_rfl) (fun _ _ _ h => h) (Or.inl ⟨by kernel_rfl, ?_⟩) (by assumption) ?_
      rotate_left 1
      focus (intro wq hSw; (try dsimp only at hSw); obtain ⟨s0, s1, s2, s3, s4, s5, s6, s7, s8⟩ := hSw; go_simp; (try with_reducible rfl); done)
      try simp only [List.getElem_toArray, List.getElem_cons_zero, List.getElem_cons_succ, Act.put, List.setIfInBounds_toArray, List.set_cons_zero, List.set_cons_succ]
      refine wpAnyH_ready (rs := [1]) (by kernel_rfl) (by simp) ?_
      refine AllReadyH.cons (o := _) rfl (fun K hK => ?_) AllReadyH.nil
      rw [if_pos (by kernel_rfl)]
      go_simp
      (go_at_call 12; (with_reducible refine (C12.out _ hHeld.2.2.2.2.2.2.2.2.out).mono ?_); rintro e z1 ⟨rfl, qq⟩)
      first | refine hK.out _ _ ?_ (fun hHeld => ?_) | (go_wp2_with fail; refine hK.out _ _ ?_ (fun hHeld => ?_))
      · exact ⟨cell_blk (hHeld.2.2.2.2.2.2.2.2.out.keep qq).xa 0, cell_blk (hHeld.2.2.2.2.2.2.2.2.out.keep qq).xa 1, cell_blk (hHeld.2.2.2.2.2.2.2.2.out.keep qq).xa 2, cell_blk (hHeld.2.2.2.2.2.2.2.2.out.keep qq).xa 3, cell_blk (hHeld.2.2.2.2.2.2.2.2.out.keep qq).ya 0, cell_blk (hHeld.2.2.2.2.2.2.2.2.out.keep qq).ya 1, cell_blk (hHeld.2.2.2.2.2.2.2.2.out.keep qq).ya 2, cell_blk (hHeld.2.2.2.2.2.2.2.2.out.keep qq).ya 3, Lib.hid (hHeld.2.2.2.2.2.2.2.2.out.keep qq)⟩
      clear hK K
      try simp only [List.getElem_toArray, List.getElem_cons_zero, List.getElem_cons_succ, Act.put, List.setIfInBounds_toArray, List.set_cons_zero, List.set_cons_succ]
      refine wpAnyH_ready (rs := [3]) (by kernel_rfl) (by simp) ?_
      refine AllReadyH.cons (o := _) rfl (fun K hK => ?_) AllReadyH.nil
      rw [if_pos (by kernel_rfl)]
      go_simp
      (go_at_call 13; (with_reducible refine (C13.out _ hHeld.2.2.2.2.2.2.2.2.out).mono ?_); rintro e z2 ⟨rfl, qq⟩)
      first | refine hK.out _ _ ?_ (fun hHeld => ?_) | (go_wp2_with fail; refine hK.out _ _ ?_ (fun hHeld => ?_))
      · exact ⟨cell_blk (hHeld.2.2.2.2.2.2.2.2.out.keep qq).xa 0, cell_blk (hHeld.2.2.2.2.2.2.2.2.out.keep qq).xa 1, cell_blk (hHeld.2.2.2.2.2.2.2.2.out.keep qq).xa 2, cell_blk (hHeld.2.2.2.2.2.2.2.2.out.keep qq).xa 3, cell_blk (hHeld.2.2.2.2.2.2.2.2.out.keep qq).ya 0, cell_blk (hHeld.2.2.2.2.2.2.2.2.out.keep qq).ya 1, cell_blk (hHeld.2.2.2.2.2.2.2.2.out.keep qq).ya 2, cell_blk (hHeld.2.2.2.2.2.2.2.2.out.keep qq).ya 3, Lib.hid (hHeld.2.2.2.2.2.2.2.2.out.keep qq)⟩
      clear hK K
      try simp only [List.getElem_toArray, List.getElem_cons_zero, List.getElem_cons_succ, Act.put, List.setIfInBounds_toArray, List.set_cons_zero, List.set_cons_succ]
      refine wpAnyH_take (i := 4) (oi := _) (v := ?_) rfl (by kernel_rfl) (by kernel_rfl) (by kernel_rfl) (fun _ _ _ h => h) (Or.inl ⟨by kernel_rfl, ?_⟩) (by assumption) ?_
      rotate_left 1
      focus (intro wq hSw; (try dsimp only at hSw); obtain ⟨s0, s1, s2, s3, s4, s5, s6, s7, s8⟩ := hSw; go_simp; (try with_reducible rfl); done)
      try simp only [List.getElem_toArray, List.getElem_cons_zero, List.getElem_cons_succ, Act.put, List.setIfInBounds_toArray, List.set_cons_zero, List.set_cons_succ]
      refine wpAnyH_take (i := 5) (oi := _) (v := ?_) rfl (by kernel_rfl) (by kernel_rfl) (by kernel_rfl) (fun _ _ _ h => h) (Or.inl ⟨by kernel_rfl, ?_⟩) (by assumption) ?_
      rotate_left 1
      focus (intro wq hSw; (try dsimp only at hSw); obtain ⟨s0, s1, s2, s3, s4, s5, s6, s7, s8⟩ := hSw; go_simp; (try with_reducible rfl); done)
      try simp only [List.getElem_toArray, List.getElem_cons_zero, List.getElem_cons_succ, Act.put, List.setIfInBounds_toArray, List.set_cons_zero, List.set_cons_succ]
      refine wpAnyH_take (i := 6) (oi := _) (v := ?_) rfl (by kernel_rfl) (by kernel_rfl) (by kernel_rfl) (fun _ _ _ h => h) (Or.inl ⟨by kernel_rfl, ?_⟩) (by assumption) ?_
      rotate_left 1
      focus (intro wq hSw; (try dsimp only at hSw); obtain ⟨s0, s1, s2, s3, s4, s5, s6, s7, s8⟩ := hSw; go_simp; (try with_reducible rfl); done)
      try simp only [List.getElem_toArray, List.getElem_cons_zero, List.getElem_cons_succ, Act.put, List.setIfInBounds_toArray, List.set_cons_zero, List.set_cons_succ]
      refine wpAnyH_take (i := 8) (oi := _) (v := ?_) rfl (by kernel_rfl) (by kernel_rfl) (by kernel_rfl) (fun _ _ _ h => h) (Or.inl ⟨by kernel_rfl, ?_⟩) (by assumption) ?_
      rotate_left 1
      focus (intro wq hSw; (try dsimp only at hSw); obtain ⟨s0, s1, s2, s3, s4, s5, s6, s7, s8⟩ := hSw; go_simp; (try with_reducible rfl); done)
      try simp only [List.getElem_toArray, List.getElem_cons_zero, List.getElem_cons_succ, Act.put, List.setIfInBounds_toArray, List.set_cons_zero, List.set_cons_succ]
      refine wpAnyH_ready (rs := [7]) (by kernel_rfl) (by simp) ?_
      refine AllReadyH.cons (o := _) rfl (fun K hK => ?_) AllReadyH.nil
      rw [if_pos (by kernel_rfl)]
      go_simp
      (go_at_call 14; (with_reducible refine (C14.out _ hHeld.2.2.2.2.2.2.2.2.out).mono ?_); rintro e z3 ⟨rfl, qq⟩)
      first | refine hK.out _ _ ?_ (fun hHeld => ?_) | (go_wp2_with fail; refine hK.out _ _ ?_ (fun hHeld => ?_))
      · exact ⟨cell_blk (hHeld.2.2.2.2.2.2.2.2.out.keep qq).xa 0, cell_blk (hHeld.2.2.2.2.2.2.2.2.out.keep qq).xa 1, cell_blk (hHeld.2.2.2.2.2.2.2.2.out.keep qq).xa 2, cell_blk (hHeld.2.2.2.2.2.2.2.2.out.keep qq).xa 3, cell_blk (hHeld.2.2.2.2.2.2.2.2.out.keep qq).ya 0, cell_blk (hHeld.2.2.2.2.2.2.2.2.out.keep qq).ya 1, cell_blk (hHeld.2.2.2.2.2.2.2.2.out.keep qq).ya 2, cell_blk (hHeld.2.2.2.2.2.2.2.2.out.keep qq).ya 3, Lib.hid (hHeld.2.2.2.2.2.2.2.2.out.keep qq)⟩
      clear hK K
      try simp only [List.getElem_toArray, List.getElem_cons_zero, List.getElem_cons_succ, Act.put, List.setIfInBounds_toArray, List.set_cons_zero, List.set_cons_succ]
      refine wpAnyH_ready (rs := [9]) (by kernel_rfl) (by simp) ?_
      refine AllReadyH.cons (o := _) rfl (fun K hK => ?_) AllReadyH.nil
      rw [if_pos (by kernel_rfl)]
      go_simp
      (go_at_call 15; (with_reducible refine (C15.out _ hHeld.2.2.2.2.2.2.2.2.out).mono ?_); rintro e z4 ⟨rfl, qq⟩)
      first | refine hK.out _ _ ?_ (fun hHeld => ?_) | (go_wp2_with fail; refine hK.out _ _ ?_ (fun hHeld => ?_))
      · exact ⟨cell_blk (hHeld.2.2.2.2.2.2.2.2.out.keep qq).xa 0, cell_blk (hHeld.2.2.2.2.2.2.2.2.out.keep qq).xa 1, cell_blk (hHeld.2.2.2.2.2.2.2.2.out.keep qq).xa 2, cell_blk (hHeld.2.2.2.2.2.2.2.2.out.keep qq).xa 3, cell_blk (hHeld.2.2.2.2.2.2.2.2.out.keep qq).ya 0, cell_blk (hHeld.2.2.2.2.2.2.2.2.out.keep qq).ya 1, cell_blk (hHeld.2.2.2.2.2.2.2.2.out.keep qq).ya 2, cell_blk (hHeld.2.2.2.2.2.2.2.2.out.keep qq).ya 3, Lib.hid (hHeld.2.2.2.2.2.2.2.2.out.keep qq)⟩
      clear hK K
      try simp only [List.getElem_toArray, List.getElem_cons_zero, List.getElem_cons_succ, Act.put, List.setIfInBounds_toArray, List.set_cons_zero, List.set_cons_succ]
      refine wpAnyH_take (i := 10) (oi := _) (v := ?_) rfl (by kernel_rfl) (by kernel_rfl) (by kernel_rfl) (fun _ _ _ h => h) (Or.inl ⟨by kernel_rfl, ?_⟩) (by assumption) ?_
      rotate_left 1
      focus (intro wq hSw; (try dsimp only at hSw); obtain ⟨s0, s1, s2, s3, s4, s5, s6, s7, s8⟩ := hSw; go_simp; (try with_reducible rfl); done)
      try simp only [List.getElem_toArray, List.getElem_cons_zero, List.getElem_cons_succ, Act.put, List.setIfInBounds_toArray, List.set_cons_zero, List.set_cons_succ]
      refine wpAnyH_take (i := 11) (oi := _) (v := ?_) rfl (by kernel_rfl) (by kernel_rfl) (by kernel_rfl) (fun _ _ _ h => h) (Or.inl ⟨by kernel_rfl, ?_⟩) (by assumption) ?_
      rotate_left 1
      focus (intro wq hSw; (try dsimp only at hSw); obtain ⟨s0, s1, s2, s3, s4, s5, s6, s7, s8⟩ := hSw; go_simp; (try with_reducible rfl); done)
      try simp only [List.getElem_toArray, List.getElem_cons_zero, List.getElem_cons_succ, Act.put, List.setIfInBounds_toArray, List.set_cons_zero, List.set_cons_succ]
      refine wpAnyH_take (i := 12) (oi := _) (v := ?_) rfl (by kernel_rfl) (by kernel_rfl) (by kernel_rfl) (fun _ _ _ h => h) (Or.inl ⟨by kernel_rfl, ?_⟩) (by assumption) ?_
      rotate_left 1
      focus (intro wq hSw; (try dsimp only at hSw); obtain ⟨s0, s1, s2, s3, s4, s5, s6, s7, s8⟩ := hSw; go_simp; (try with_reducible rfl); done)
      try simp only [List.getElem_toArray, List.getElem_cons_zero, List.getElem_cons_succ, Act.put, List.setIfInBounds_toArray, List.set_cons_zero, List.set_cons_succ]
      refine wpAnyH_take (i := 13) (oi := _) (v := ?_) rfl (by kernel_rfl) (by kernel_rfl) (by kernel_rfl) (fun _ _ _ h => h) (Or.inl ⟨by kernel_rfl, ?_⟩) (by assumption) ?_
      rotate_left 1
      focus (intro wq hSw; (try dsimp only at hSw); obtain ⟨s0, s1, s2, s3, s4, s5, s6, s7, s8⟩ := hSw; go_simp; (try with_reducible rfl); done)
      try simp only [List.getElem_toArray, List.getElem_cons_zero, List.getElem_cons_succ, Act.put, List.setIfInBounds_toArray, List.set_cons_zero, List.set_cons_succ]
      refine wpAnyH_take (i := 15) (oi := _) (v := ?_) rfl (by kernel_rfl) (by kernel_rfl) (by kernel_rfl) (fun _ _ _ h => h) (Or.inl ⟨by kernel_rfl, ?_⟩) (by assumption) ?_
      rotate_left 1
      focus (intro wq hSw; (try dsimp only at hSw); obtain ⟨s0, s1, s2, s3, s4, s5, s6, s7, s8⟩ := hSw; go_simp; (try with_reducible rfl); done)
      try simp only [List.getElem_toArray, List.getElem_cons_zero, List.getElem_cons_succ, Act.put, List.setIfInBounds_toArray, List.set_cons_zero, List.set_cons_succ]
      refine wpAnyH_ready (rs := [14]) (by kernel_rfl) (by simp) ?_
      refine AllReadyH.cons (o := _) rfl (fun K hK => ?_) AllReadyH.nil
      rw [if_pos (by kernel_rfl)]
      go_simp
      (go_at_call 16; (with_reducible refine (C16.out _ hHeld.2.2.2.2.2.2.2.2.out).mono ?_); rintro e z5 ⟨rfl, qq⟩)
      first | refine hK.out _ _ ?_ (fun hHeld => ?_) | (go_wp2_with fail; refine hK.out _ _ ?_ (fun hHeld => ?_))
      · exact ⟨cell_blk (hHeld.2.2.2.2.2.2.2.2.out.keep qq).xa 0, cell_blk (hHeld.2.2.2.2.2.2.2.2.out.keep qq).xa 1, cell_blk (hHeld.2.2.2.2.2.2.2.2.out.keep qq).xa 2, cell_blk (hHeld.2.2.2.2.2.2.2.2.out.keep qq).xa 3, cell_blk (hHeld.2.2.2.2.2.2.2.2.out.keep qq).ya 0, cell_blk (hHeld.2.2.2.2.2.2.2.2.out.keep qq).ya 1, cell_blk (hHeld.2.2.2.2.2.2.2.2.out.keep qq).ya 2, cell_blk (hHeld.2.2.2.2.2.2.2.2.out.keep qq).ya 3, Lib.hid (hHeld.2.2.2.2.2.2.2.2.out.keep qq)⟩
      clear hK K
      try simp only [List.getElem_toArray, List.getElem_cons_zero, List.getElem_cons_succ, Act.put, List.setIfInBounds_toArray, List.set_cons_zero, List.set_cons_succ]
      refine wpAnyH_ready (rs := [16]) (by kernel_rfl) (by simp) ?_
      refine AllReadyH.cons (o := _) rfl (fun K hK => ?_) AllReadyH.nil
      rw [if_pos (by kernel_rfl)]
      go_simp
      (go_at_call 17; (with_reducible refine (C17.out _ hHeld.2.2.2.2.2.2.2.2.out).mono ?_); rintro e z6 ⟨rfl, qq⟩)
      first | refine hK.out _ _ ?_ (fun hHeld => ?_) | (go_wp2_with fail; refine hK.out _ _ ?_ (fun hHeld => ?_))
      · exact ⟨cell_blk (hHeld.2.2.2.2.2.2.2.2.out.keep qq).xa 0, cell_blk (hHeld.2.2.2.2.2.2.2.2.out.keep qq).xa 1, cell_blk (hHeld.2.2.2.2.2.2.2.2.out.keep qq).xa 2, cell_blk (hHeld.2.2.2.2.2.2.2.2.out.keep qq).xa 3, cell_blk (hHeld.2.2.2.2.2.2.2.2.out.keep qq).ya 0, cell_blk (hHeld.2.2.2.2.2.2.2.2.out.keep qq).ya 1, cell_blk (hHeld.2.2.2.2.2.2.2.2.out.keep qq).ya 2, cell_blk (hHeld.2.2.2.2.2.2.2.2.out.keep qq).ya 3, Lib.hid (hHeld.2.2.2.2.2.2.2.2.out.keep qq)⟩
      clear hK K
      try simp only [List.getElem_toArray, List.getElem_cons_zero, List.getElem_cons_succ, Act.put, List.setIfInBounds_toArray, List.set_cons_zero, List.set_cons_succ]
      refine wpAnyH_take (i := 17) (oi := _) (v := ?_) rfl (by kernel_rfl) (by kernel_rfl) (by kernel_rfl) (fun _ _ _ h => h) (Or.inl ⟨by kernel_rfl, ?_⟩) (by assumption) ?_
      rotate_left 1
      focus (intro wq hSw; (try dsimp only at hSw); obtain ⟨s0, s1, s2, s3, s4, s5, s6, s7, s8⟩ := hSw; go_simp; (try with_reducible rfl); done)
      try simp only [List.getElem_toArray, List.getElem_cons_zero, List.getElem_cons_succ, Act.put, List.setIfInBounds_toArray, List.set_cons_zero, List.set_cons_succ]
      refine wpAnyH_take (i := 18) (oi := _) (v := ?_) rfl (by kernel_rfl) (by kernel_rfl) (by kernel_rfl) (fun _ _ _ h => h) (Or.inl ⟨by kernel_rfl, ?_⟩) (by assumption) ?_
      rotate_left 1
      focus (intro wq hSw; (try dsimp only at hSw); obtain ⟨s0, s1, s2, s3, s4, s5, s6, s7, s8⟩ := hSw; go_simp; (try with_reducible rfl); done)
      try simp only [List.getElem_toArray, List.getElem_cons_zero, List.getElem_cons_succ, Act.put, List.setIfInBounds_toArray, List.set_cons_zero, List.set_cons_succ]
      refine wpAnyH_take (i := 19) (oi := _) (v := ?_) rfl (by kernel_rfl) (by kernel_rfl) (by kernel_rfl) (fun _ _ _ h => h) (Or.inl ⟨by kernel_rfl, ?_⟩) (by assumption) ?_
      rotate_left 1
      focus (intro wq hSw; (try dsimp only at hSw); obtain ⟨s0, s1, s2, s3, s4, s5, s6, s7, s8⟩ := hSw; go_simp; (try with_reducible rfl); done)
      try simp only [List.getElem_toArray, List.getElem_cons_zero, List.getElem_cons_succ, Act.put, List.setIfInBounds_toArray, List.set_cons_zero, List.set_cons_succ]
      refine wpAnyH_take (i := 20) (oi := _) (v := ?_) rfl (by kernel_rfl) (by kernel_rfl) (by kernel_rfl) (fun _ _ _ h => h) (Or.inl ⟨by kernel_rfl, ?_⟩) (by assumption) ?_
      rotate_left 1
      focus (intro wq hSw; (try dsimp only at hSw); obtain ⟨s0, s1, s2, s3, s4, s5, s6, s7, s8⟩ := hSw; go_simp; (try with_reducible rfl); done)
      try simp only [List.getElem_toArray, List.getElem_cons_zero, List.getElem_cons_succ, Act.put, List.setIfInBounds_toArray, List.set_cons_zero, List.set_cons_succ]
      refine wpAnyH_take (i := 21) (oi := _) (v := ?_) rfl (by kernel_rfl) (by kernel_rfl) (by kernel_rfl) (fun _ _ _ h => h) (Or.inl ⟨by kernel_rfl, ?_⟩) (by assumption) ?_
      rotate_left 1
      focus (intro wq hSw; (try dsimp only at hSw); obtain ⟨s0, s1, s2, s3, s4, s5, s6, s7, s8⟩ := hSw; go_simp; (try with_reducible rfl); done)
      try simp only [List.getElem_toArray, List.getElem_cons_zero, List.getElem_cons_succ, Act.put, List.setIfInBounds_toArray, List.set_cons_zero, List.set_cons_succ]
      refine wpAnyH_take (i := 23) (oi := _) (v := ?_) rfl (by kernel_rfl) (by kernel_rfl) (by kernel_rfl) (fun _ _ _ h => h) (Or.inl ⟨by kernel_rfl, ?_⟩) (by assumption) ?_
      rotate_left 1
      focus (intro wq hSw; (try dsimp only at hSw); obtain ⟨s0, s1, s2, s3, s4, s5, s6, s7, s8⟩ := hSw; go_simp; (try with_reducible rfl); done)
      try simp only [List.getElem_toArray, List.getElem_cons_zero, List.getElem_cons_succ, Act.put, List.setIfInBounds_toArray, List.set_cons_zero, List.set_cons_succ]
      refine wpAnyH_take (i := 24) (oi := _) (v := ?_) rfl (by kernel_rfl) (by kernel_rfl) (by kernel_rfl) (fun _ _ _ h => h) (Or.inl ⟨by kernel_rfl, ?_⟩) (by assumption) ?_
      rotate_left 1
      focus (intro wq hSw; (try dsimp only at hSw); obtain ⟨s0, s1, s2, s3, s4, s5, s6, s7, s8⟩ := hSw; go_simp; (try with_reducible rfl); done)
      try simp only [List.getElem_toArray, List.getElem_cons_zero, List.getElem_cons_succ, Act.put, List.setIfInBounds_toArray, List.set_cons_zero, List.set_cons_succ]
      refine wpAnyH_ready (rs := [22]) (by kernel_rfl) (by simp) ?_
      refine AllReadyH.cons (o := _) rfl (fun K hK => ?_) AllReadyH.nil
      rw [if_pos (by kernel_rfl)]
      go_simp
      (go_at_call 18; (with_reducible refine (C18.out _ hHeld.2.2.2.2.2.2.2.2.out).mono ?_); rintro e z7 ⟨rfl, qq⟩)
      first | refine hK.out _ _ ?_ (fun hHeld => ?_) | (go_wp2_with fail; refine hK.out _ _ ?_ (fun hHeld => ?_))
      · exact ⟨cell_blk (hHeld.2.2.2.2.2.2.2.2.out.keep qq).xa 0, cell_blk (hHeld.2.2.2.2.2.2.2.2.out.keep qq).xa 1, cell_blk (hHeld.2.2.2.2.2.2.2.2.out.keep qq).xa 2, cell_blk (hHeld.2.2.2.2.2.2.2.2.out.keep qq).xa 3, cell_blk (hHeld.2.2.2.2.2.2.2.2.out.keep qq).ya 0, cell_blk (hHeld.2.2.2.2.2.2.2.2.out.keep qq).ya 1, cell_blk (hHeld.2.2.2.2.2.2.2.2.out.keep qq).ya 2, cell_blk (hHeld.2.2.2.2.2.2.2.2.out.keep qq).ya 3, Lib.hid (hHeld.2.2.2.2.2.2.2.2.out.keep qq)⟩
      clear hK K
      try simp only [List.getElem_toArray, List.getElem_cons_zero, List.getElem_cons_succ, Act.put, List.setIfInBounds_toArray, List.set_cons_zero, List.set_cons_succ]
      refine wpAnyH_ready (rs := [25]) (by kernel_rfl) (by simp) ?_
      refine AllReadyH.cons (o := _) rfl (fun K hK => ?_) AllReadyH.nil
      rw [if_pos (by kernel_rfl)]
      go_simp
      (go_at_call 19; (with_reducible refine (C19.out _ hHeld.2.2.2.2.2.2.2.2.out).mono ?_); rintro e z8 ⟨rfl, qq⟩)
      first | refine hK.out _ _ ?_ (fun hHeld => ?_) | (go_wp2_with fail; refine hK.out _ _ ?_ (fun hHeld => ?_))
      · exact ⟨cell_blk (hHeld.2.2.2.2.2.2.2.2.out.keep qq).xa 0, cell_blk (hHeld.2.2.2.2.2.2.2.2.out.keep qq).xa 1, cell_blk (hHeld.2.2.2.2.2.2.2.2.out.keep qq).xa 2, cell_blk (hHeld.2.2.2.2.2.2.2.2.out.keep qq).xa 3, cell_blk (hHeld.2.2.2.2.2.2.2.2.out.keep qq).ya 0, cell_blk (hHeld.2.2.2.2.2.2.2.2.out.keep qq).ya 1, cell_blk (hHeld.2.2.2.2.2.2.2.2.out.keep qq).ya 2, cell_blk (hHeld.2.2.2.2.2.2.2.2.out.keep qq).ya 3, Lib.hid (hHeld.2.2.2.2.2.2.2.2.out.keep qq)⟩
      clear hK K
      try simp only [List.getElem_toArray, List.getElem_cons_zero, List.getElem_cons_succ, Act.put, List.setIfInBounds_toArray, List.set_cons_zero, List.set_cons_succ]
      refine wpAnyH_take (i := 26) (oi := _) (v := ?_) rfl (by kernel_rfl) (by kernel_rfl) (by kernel_rfl) (fun _ _ _ h => h) (Or.inl ⟨by kernel_rfl, ?_⟩) (by assumption) ?_
      rotate_left 1
      focus (intro wq hSw; (try dsimp only at hSw); obtain ⟨s0, s1, s2, s3, s4, s5, s6, s7, s8⟩ := hSw; go_simp; (try with_reducible rfl); done)
      try simp only [List.getElem_toArray, List.getElem_cons_zero, List.getElem_cons_succ, Act.put, List.setIfInBounds_toArray, List.set_cons_zero, List.set_cons_succ]
      refine wpAnyH_take (i := 27) (oi := _) (v := ?_) rfl (by kernel_rfl) (by kernel_rfl) (by kernel_rfl) (fun _ _ _ h => h) (Or.inl ⟨by kernel_rfl, ?_⟩) (by assumption) ?_
      rotate_left 1
      focus (intro wq hSw; (try dsimp only at hSw); obtain ⟨s0, s1, s2, s3, s4, s5, s6, s7, s8⟩ := hSw; go_simp; (try with_reducible rfl); done)
      try simp only [List.getElem_toArray, List.getElem_cons_zero, List.getElem_cons_succ, Act.put, List.setIfInBounds_toArray, List.set_cons_zero, List.set_cons_succ]
      refine wpAnyH_take (i := 28) (oi := _) (v := ?_) rfl (by kernel_rfl) (by kernel_rfl) (by kernel_rfl) (fun _ _ _ h => h) (Or.inl ⟨by kernel_rfl, ?_⟩) (by assumption) ?_
      rotate_left 1
      focus (intro wq hSw; (try dsimp only at hSw); obtain ⟨s0, s1, s2, s3, s4, s5, s6, s7, s8⟩ := hSw; go_simp; (try with_reducible rfl); done)
      try simp only [List.getElem_toArray, List.getElem_cons_zero, List.getElem_cons_succ, Act.put, List.setIfInBounds_toArray, List.set_cons_zero, List.set_cons_succ]
      refine wpAnyH_take (i := 29) (oi := _) (v := ?_) rfl (by kernel_rfl) (by kernel_rfl) (by kernel_rfl) (fun _ _ _ h => h) (Or.inl ⟨by kernel_rfl, ?_⟩) (by assumption) ?_
      rotate_left 1
      focus (intro wq hSw; (try dsimp only at hSw); obtain ⟨s0, s1, s2, s3, s4, s5, s6, s7, s8⟩ := hSw; go_simp; (try with_reducible rfl); done)
      try simp only [List.getElem_toArray, List.getElem_cons_zero, List.getElem_cons_succ, Act.put, List.setIfInBounds_toArray, List.set_cons_zero, List.set_cons_succ]
      refine wpAnyH_take (i := 31) (oi := _) (v := ?_) rfl (by kernel_rfl) (by kernel_rfl) (by kernel_rfl) (fun _ _ _ h => h) (Or.inl ⟨by kernel_rfl, ?_⟩) (by assumption) ?_
      rotate_left 1
      focus (intro wq hSw; (try dsimp only at hSw); obtain ⟨s0, s1, s2, s3, s4, s5, s6, s7, s8⟩ := hSw; go_simp; (try with_reducible rfl); done)
      try simp only [List.getElem_toArray, List.getElem_cons_zero, List.getElem_cons_succ, Act.put, List.setIfInBounds_toArray, List.set_cons_zero, List.set_cons_succ]
      refine wpAnyH_ready (rs := [30]) (by kernel_rfl) (by simp) ?_
      refine AllReadyH.cons (o := _) rfl (fun K hK => ?_) AllReadyH.nil
      rw [if_pos (by kernel_rfl)]
      go_simp
      (go_at_call 21; (with_reducible refine (C21.out _ hHeld.2.2.2.2.2.2.2.2.out).mono ?_); rintro e z9 ⟨v1, rfl, HR1, q0⟩; have qq := q0.out; obtain ⟨oa, ca, rfl, ha, hca⟩ := own_st2 HR1.out; have HSA := Lib.hid ha; clear HR1 ha hca q0)
      first | refine hK.out _ _ ?_ (fun hHeld => ?_) | (go_wp2_with fail; refine hK.out _ _ ?_ (fun hHeld => ?_))
      · exact ⟨cell_blk (hHeld.2.2.2.2.2.2.2.2.out.keep qq).xa 0, cell_blk (hHeld.2.2.2.2.2.2.2.2.out.keep qq).xa 1, cell_blk (hHeld.2.2.2.2.2.2.2.2.out.keep qq).xa 2, cell_blk (hHeld.2.2.2.2.2.2.2.2.out.keep qq).xa 3, cell_blk (hHeld.2.2.2.2.2.2.2.2.out.keep qq).ya 0, cell_blk (hHeld.2.2.2.2.2.2.2.2.out.keep qq).ya 1, cell_blk (hHeld.2.2.2.2.2.2.2.2.out.keep qq).ya 2, cell_blk (hHeld.2.2.2.2.2.2.2.2.out.keep qq).ya 3, Lib.hid (hHeld.2.2.2.2.2.2.2.2.out.keep qq)⟩
      clear hK K
      try simp only [List.getElem_toArray, List.getElem_cons_zero, List.getElem_cons_succ, Act.put, List.setIfInBounds_toArray, List.set_cons_zero, List.set_cons_succ]
      refine wpAnyH_ready (rs := [32]) (by kernel_rfl) (by simp) ?_
      refine AllReadyH.cons (o := _) rfl (fun K hK => ?_) AllReadyH.nil
      rw [if_pos (by kernel_rfl)]
      go_simp
      (go_at_call 22; (with_reducible refine (C22.out _ hHeld.2.2.2.2.2.2.2.2.out).mono ?_); rintro e z10 ⟨v2, rfl, HR2, q0⟩; have qq := q0.out; obtain ⟨ob, cb, rfl, hb, hcb⟩ := own_st2 HR2.out; have HSB := Lib.hid hb; have HSA := Lib.hid (HSA.out.keep qq); clear HR2 hb hcb q0)
      first | refine hK.out _ _ ?_ (fun hHeld => ?_) | (go_wp2_with fail; refine hK.out _ _ ?_ (fun hHeld => ?_))
      · exact ⟨cell_blk (hHeld.2.2.2.2.2.2.2.2.out.keep qq).xa 0, cell_blk (hHeld.2.2.2.2.2.2.2.2.out.keep qq).xa 1, cell_blk (hHeld.2.2.2.2.2.2.2.2.out.keep qq).xa 2, cell_blk (hHeld.2.2.2.2.2.2.2.2.out.keep qq).xa 3, cell_blk (hHeld.2.2.2.2.2.2.2.2.out.keep qq).ya 0, cell_blk (hHeld.2.2.2.2.2.2.2.2.out.keep qq).ya 1, cell_blk (hHeld.2.2.2.2.2.2.2.2.out.keep qq).ya 2, cell_blk (hHeld.2.2.2.2.2.2.2.2.out.keep qq).ya 3, Lib.hid (hHeld.2.2.2.2.2.2.2.2.out.keep qq)⟩
      clear hK K
      try simp only [List.getElem_toArray, List.getElem_cons_zero, List.getElem_cons_succ, Act.put, List.setIfInBounds_toArray, List.set_cons_zero, List.set_cons_succ]
      refine wpAnyH_ready (rs := [33]) (by kernel_rfl) (by simp) ?_
      refine AllReadyH.cons (o := _) rfl (fun K hK => ?_) AllReadyH.nil
      rw [if_pos (by kernel_rfl)]
      go_simp
      (go_at_call 20; (with_reducible refine (texts_same oa ob _ ca cb Nx _ HSA.out HSB.out).mono ?_); rintro e z11 ⟨rfl, qq⟩; clear HSA HSB)
      first | refine hK.out _ _ ?_ (fun hHeld => ?_) | (go_wp2_with fail; refine hK.out _ _ ?_ (fun hHeld => ?_))
      · exact ⟨cell_blk (hHeld.2.2.2.2.2.2.2.2.out.keep qq).xa 0, cell_blk (hHeld.2.2.2.2.2.2.2.2.out.keep qq).xa 1, cell_blk (hHeld.2.2.2.2.2.2.2.2.out.keep qq).xa 2, cell_blk (hHeld.2.2.2.2.2.2.2.2.out.keep qq).xa 3, cell_blk (hHeld.2.2.2.2.2.2.2.2.out.keep qq).ya 0, cell_blk (hHeld.2.2.2.2.2.2.2.2.out.keep qq).ya 1, cell_blk (hHeld.2.2.2.2.2.2.2.2.out.keep qq).ya 2, cell_blk (hHeld.2.2.2.2.2.2.2.2.out.keep qq).ya 3, Lib.hid (hHeld.2.2.2.2.2.2.2.2.out.keep qq)⟩
      clear hK K
      try simp only [List.getElem_toArray, List.getElem_cons_zero, List.getElem_cons_succ, Act.put, List.setIfInBounds_toArray, List.set_cons_zero, List.set_cons_succ]
      refine wpAnyH_take (i := 34) (oi := _) (v := ?_) rfl (by kernel_rfl) (by kernel_rfl) (by kernel_rfl) (fun _ _ _ h => h) (Or.inl ⟨by kernel_rfl, ?_⟩) (by assumption) ?_
      rotate_left 1
      focus (intro wq hSw; (try dsimp only at hSw); obtain ⟨s0, s1, s2, s3, s4, s5, s6, s7, s8⟩ := hSw; go_simp; (try with_reducible rfl); done)
      try simp only [List.getElem_toArray, List.getElem_cons_zero, List.getElem_cons_succ, Act.put, List.setIfInBounds_toArray, List.set_cons_zero, List.set_cons_succ]
      refine wpAnyH_take (i := 35) (oi := _) (v := ?_) rfl (by kernel_rfl) (by kernel_rfl) (by kernel_rfl) (fun _ _ _ h => h) (Or.inl ⟨by kernel_rfl, ?_⟩) (by assumption) ?_
      rotate_left 1
      focus (intro wq hSw; (try dsimp only at hSw); obtain ⟨s0, s1, s2, s3, s4, s5, s6, s7, s8⟩ := hSw; go_simp; (try with_reducible rfl); done)
      try simp only [List.getElem_toArray, List.getElem_cons_zero, List.getElem_cons_succ, Act.put, List.setIfInBounds_toArray, List.set_cons_zero, List.set_cons_succ]
      refine wpAnyH_take (i := 36) (oi := _) (v := ?_) rfl (by kernel_rfl) (by kernel_rfl) (by kernel_rfl) (fun _ _ _ h => h) (Or.inl ⟨by kernel_rfl, ?_⟩) (by assumption) ?_
      rotate_left 1
      focus (intro wq hSw; (try dsimp only at hSw); obtain ⟨s0, s1, s2, s3, s4, s5, s6, s7, s8⟩ := hSw; go_simp; (try with_reducible rfl); done)
      try simp only [List.getElem_toArray, List.getElem_cons_zero, List.getElem_cons_succ, Act.put, List.setIfInBounds_toArray, List.set_cons_zero, List.set_cons_succ]
      refine wpAnyH_take (i := 38) (oi := _) (v := ?_) rfl (by kernel_rfl) (by kernel_rfl) (by kernel_rfl) (fun _ _ _ h => h) (Or.inl ⟨by kernel_rfl, ?_⟩) (by assumption) ?_
      rotate_left 1
      focus (intro wq hSw; (try dsimp only at hSw); obtain ⟨s0, s1, s2, s3, s4, s5, s6, s7, s8⟩ := hSw; go_simp; (try with_reducible rfl); done)
      try simp only [List.getElem_toArray, List.getElem_cons_zero, List.getElem_cons_succ, Act.put, List.setIfInBounds_toArray, List.set_cons_zero, List.set_cons_succ]
      refine wpAnyH_ready (rs := [37]) (by kernel_rfl) (by simp) ?_
      refine AllReadyH.cons (o := _) rfl (fun K hK => ?_) AllReadyH.nil
      rw [if_pos (by kernel_rfl)]
      go_simp
      (go_at_call 23; (with_reducible refine (C23.out _ hHeld.2.2.2.2.2.2.2.2.out).mono ?_); rintro e z12 ⟨v3, rfl, qq, HO3⟩; have HO3 := Lib.hid HO3.ex)
      first | refine hK.out _ _ ?_ (fun hHeld => ?_) | (go_wp2_with fail; refine hK.out _ _ ?_ (fun hHeld => ?_))
      · exact ⟨cell_blk (hHeld.2.2.2.2.2.2.2.2.out.keep qq).xa 0, cell_blk (hHeld.2.2.2.2.2.2.2.2.out.keep qq).xa 1, cell_blk (hHeld.2.2.2.2.2.2.2.2.out.keep qq).xa 2, cell_blk (hHeld.2.2.2.2.2.2.2.2.out.keep qq).xa 3, cell_blk (hHeld.2.2.2.2.2.2.2.2.out.keep qq).ya 0, cell_blk (hHeld.2.2.2.2.2.2.2.2.out.keep qq).ya 1, cell_blk (hHeld.2.2.2.2.2.2.2.2.out.keep qq).ya 2, cell_blk (hHeld.2.2.2.2.2.2.2.2.out.keep qq).ya 3, Lib.hid (hHeld.2.2.2.2.2.2.2.2.out.keep qq)⟩
      clear hK K
      try simp only [List.getElem_toArray, List.getElem_cons_zero, List.getElem_cons_succ, Act.put, List.setIfInBounds_toArray, List.set_cons_zero, List.set_cons_succ]
      refine wpAnyH_ready (rs := [39]) (by kernel_rfl) (by simp) ?_
      refine AllReadyH.cons (o := _) rfl (fun K hK => ?_) AllReadyH.nil
      rw [if_pos (by kernel_rfl)]
      go_simp
      (go_at_call 19; (with_reducible refine (CC.out _ v3 hHeld.2.2.2.2.2.2.2.2.out HO3.out).mono ?_); rintro e z13 ⟨rfl, qq⟩)
      first | refine hK.out _ _ ?_ (fun hHeld => ?_) | (go_wp2_with fail; refine hK.out _ _ ?_ (fun hHeld => ?_))
      · exact ⟨cell_blk (hHeld.2.2.2.2.2.2.2.2.out.keep qq).xa 0, cell_blk (hHeld.2.2.2.2.2.2.2.2.out.keep qq).xa 1, cell_blk (hHeld.2.2.2.2.2.2.2.2.out.keep qq).xa 2, cell_blk (hHeld.2.2.2.2.2.2.2.2.out.keep qq).xa 3, cell_blk (hHeld.2.2.2.2.2.2.2.2.out.keep qq).ya 0, cell_blk (hHeld.2.2.2.2.2.2.2.2.out.keep qq).ya 1, cell_blk (hHeld.2.2.2.2.2.2.2.2.out.keep qq).ya 2, cell_blk (hHeld.2.2.2.2.2.2.2.2.out.keep qq).ya 3, Lib.hid (hHeld.2.2.2.2.2.2.2.2.out.keep qq)⟩
      clear hK K
      try simp only [List.getElem_toArray, List.getElem_cons_zero, List.getElem_cons_succ, Act.put, List.setIfInBounds_toArray, List.set_cons_zero, List.set_cons_succ]
      refine wpAnyH_take (i := 40) (oi := _) (v := ?_) rfl (by kernel_rfl) (by kernel_rfl) (by kernel_rfl) (fun _ _ _ h => h) (Or.inl ⟨by kernel_rfl, ?_⟩) (by assumption) ?_
      rotate_left 1
      focus (intro wq hSw; (try dsimp only at hSw); obtain ⟨s0, s1, s2, s3, s4, s5, s6, s7, s8⟩ := hSw; go_simp; (try with_reducible rfl); done)
      try simp only [List.getElem_toArray, List.getElem_cons_zero, List.getElem_cons_succ, Act.put, List.setIfInBounds_toArray, List.set_cons_zero, List.set_cons_succ]
      refine wpAnyH_take (i := 41) (oi := _) (v := ?_) rfl (by kernel_rfl) (by kernel_rfl) (by kernel_rfl) (fun _ _ _ h => h) (Or.inl ⟨by kernel_rfl, ?_⟩) (by assumption) ?_
      rotate_left 1
      focus (intro wq hSw; (try dsimp only at hSw); obtain ⟨s0, s1, s2, s3, s4, s5, s6, s7, s8⟩ := hSw; go_simp; (try with_reducible rfl); done)
      try simp only [List.getElem_toArray, List.getElem_cons_zero, List.getElem_cons_succ, Act.put, List.setIfInBounds_toArray, List.set_cons_zero, List.set_cons_succ]
      refine wpAnyH_ready (rs := [42]) (by kernel_rfl) (by simp) ?_
      refine AllReadyH.cons (o := _) rfl (fun K hK => ?_) AllReadyH.nil
      rw [if_pos (by kernel_rfl)]
      go_simp
      (go_at_call 7; (with_reducible refine (awake_any _ hHeld.2.2.2.2.2.2.2.2.out.tab).mono ?_); rintro e z14 ⟨rfl, qq⟩)
      first | refine hK.out _ _ ?_ (fun hHeld => ?_) | (go_wp2_with fail; refine hK.out _ _ ?_ (fun hHeld => ?_))
      · exact ⟨cell_blk (hHeld.2.2.2.2.2.2.2.2.out.keep qq).xa 0, cell_blk (hHeld.2.2.2.2.2.2.2.2.out.keep qq).xa 1, cell_blk (hHeld.2.2.2.2.2.2.2.2.out.keep qq).xa 2, cell_blk (hHeld.2.2.2.2.2.2.2.2.out.keep qq).xa 3, cell_blk (hHeld.2.2.2.2.2.2.2.2.out.keep qq).ya 0, cell_blk (hHeld.2.2.2.2.2.2.2.2.out.keep qq).ya 1, cell_blk (hHeld.2.2.2.2.2.2.2.2.out.keep qq).ya 2, cell_blk (hHeld.2.2.2.2.2.2.2.2.out.keep qq).ya 3, Lib.hid (hHeld.2.2.2.2.2.2.2.2.out.keep qq)⟩
      clear hK K
      try simp only [List.getElem_toArray, List.getElem_cons_zero, List.getElem_cons_succ, Act.put, List.setIfInBounds_toArray, List.set_cons_zero, List.set_cons_succ]
      refine wpAnyH_take (i := 43) (oi := _) (v := ?_) rfl (by kernel_rfl) (by kernel_rfl) (by kernel_rfl) (fun _ _ _ h => h) (Or.inl ⟨by kernel_rfl, ?_⟩) (by assumption) ?_
      rotate_left 1
      focus (intro wq hSw; (try dsimp only at hSw); obtain ⟨s0, s1, s2, s3, s4, s5, s6, s7, s8⟩ := hSw; go_simp; (try with_reducible rfl); done)
      try simp only [List.getElem_toArray, List.getElem_cons_zero, List.getElem_cons_succ, Act.put, List.setIfInBounds_toArray, List.set_cons_zero, List.set_cons_succ]
      refine wpAnyH_take (i := 44) (oi := _) (v := ?_) rfl (by kernel_rfl) (by kernel_rfl) (by kernel_rfl) (fun _ _ _ h => h) (Or.inl ⟨by kernel_rfl, ?_⟩) (by assumption) ?_
      rotate_left 1
      focus (intro wq hSw; (try dsimp only at hSw); obtain ⟨s0, s1, s2, s3, s4, s5, s6, s7, s8⟩ := hSw; go_simp; (try with_reducible rfl); done)
      try simp only [List.getElem_toArray, List.getElem_cons_zero, List.getElem_cons_succ, Act.put, List.setIfInBounds_toArray, List.set_cons_zero, List.set_cons_succ]
      refine wpAnyH_done (by kernel_rfl) ?_ _
      have HE := Lib.hid hHeld.2.2.2.2.2.2.2.2.out.bw
      go_wp2
      go_returns
      exact ⟨rfl, HE.out⟩
    · have d2 : decide (Ly ≤ 3000) = false := decide_eq_false c2
      have HQ := Lib.hid (awake_any w3 HE.out.tab)
      go_wp2_with fail
      (with_reducible refine HQ.out.mono ?_)
      rintro e wz ⟨rfl, q9⟩
      have HF9 := Lib.hid (HE.out.bw.trans (q9.mono HE.out.bw.size))
      clear q9
      go_wp2
      go_returns
      exact ⟨rfl, HF9.out⟩
  · have d1 : decide (Lx ≤ 3000) = false := decide_eq_false c1
    have HQ := Lib.hid (awake_any w2 HE.out.tab)
    go_wp2_with fail
    (with_reducible refine HQ.out.mono ?_)
    rintro e wz ⟨rfl, q9⟩
    have HF9 := Lib.hid (HE.out.bw.trans (q9.mono HE.out.bw.size))
    clear q9
    go_wp2
    go_returns
    exact ⟨rfl, HF9.out⟩
end Go.Proofs.YtgealkflfmeicaaDoor
