/- ExprNames: the walk. -/
import Derived.Test.YtgealkflfmeicaaDoorE11
namespace Go.Proofs.YtgealkflfmeicaaDoor
set_option linter.unusedVariables false
set_option linter.unusedSimpArgs false
open Go.ChangeShapes Go.WideShapes Go.ChangeAt Go.RowKit
/-- The two expressions in their boxes. -/
structure En (w0 w : World) (xb : Nat) (p q : Pt) (an aa bn ba : Option Addr) (nn nc ac mn mc bc n m : Nat) (F G : Tour) : Prop where
  bw : Below w0.heap.size w0 w
  tab : Tabn w
  xa : w.heap[xb]? = some (.cells #[.int .u8 p.op, .string p.nm, .slice an nn nc, .slice aa p.k ac] 25 (0, 0))
  ya : w.heap[xb + 1]? = some (.cells #[.int .u8 q.op, .string q.nm, .slice bn mn mc, .slice ba q.k bc] 25 (0, 0))
  ex : ExAt w n (.agg #[.int .u8 p.op, .string p.nm, .slice an nn nc, .slice aa p.k ac]) F
  ey : ExAt w m (.agg #[.int .u8 q.op, .string q.nm, .slice bn mn mc, .slice ba q.k bc]) G
theorem En.keep {w0 w w' : World} {xb : Nat} {p q : Pt} {an aa bn ba : Option Addr} {nn nc ac mn mc bc n m : Nat} {F G : Tour} (h : En w0 w xb p q an aa bn ba nn nc ac mn mc bc n m F G) (k : Below w.heap.size w w') : En w0 w' xb p q an aa bn ba nn nc ac mn mc bc n m F G :=
  ⟨h.bw.trans (k.mono h.bw.size), h.tab.keep k, (k.block xb (Array.getElem?_eq_some_iff.1 h.xa).1).trans h.xa, (k.block (xb + 1) (Array.getElem?_eq_some_iff.1 h.ya).1).trans h.ya, h.ex.keep k, h.ey.keep k⟩
theorem nAll_le : ∀ (L : List Pt) (Z : List ByteArray), (nAll Z L).length ≤ Z.length + L.length
  | [], Z => by simp [nAll]
  | p :: r, Z => by
    show (nAll (nAdd Z p) r).length ≤ _
    have a := nAll_le r (nAdd Z p)
    have b : (nAdd Z p).length ≤ Z.length + 1 := nStep_len Z p 0
    simp; omega
theorem nms_le (l : List (Pt × Int)) : (nmsOf l).length ≤ l.length := by
  rw [nms_all]
  have := nAll_le (l.map (fun x => x.1)) []
  simpa using this
theorem own_st2 {w : World} {B : Nat} {v : Value} {l : List ByteArray} (h : w.ownsRow B 9 1 v l.length (l.map Value.string)) : ∃ ao c, v = .slice ao l.length c ∧ StAt w ao l.length c l ∧ (ao = none → c = 0) := by
  obtain ⟨ao, c, e, hs⟩ := own_st h
  refine ⟨ao, c, e, hs, fun z => ?_⟩
  subst z
  rcases h.2 with ⟨e2, h0⟩ | ⟨g, cap, cur, e2, _⟩
  · rw [e2] at e
    injection e with a b d
    exact d.symm
  · rw [e2] at e; cases e
set_option maxRecDepth 8000 in
set_option maxHeartbeats 4000000 in
theorem exprNames_walk (n m : Nat) (v u : Value) (F G : Tour) (w : World) (hT : Tabn w) (hF : ExAt w n v F) (hG : ExAt w m u G) (hn : n ≤ 1048576) (hm : m ≤ 1048576) (lF : (F 1).length ≤ 1048576) (lG : (G 1).length ≤ 1048576) :
    Calls Tryd.prog 5 #[v, u] w fun e w' => e = .returned (.bool true) ∧ Below w.heap.size w w' := by
  obtain ⟨p, an, nn, nc, aa, ac, rfl, _⟩ := hF.head
  obtain ⟨q, bn, mn, mc, ba, bc, rfl, _⟩ := hG.head
  have HNM := Lib.hid (And.intro hn hm)
  have HLL := Lib.hid (And.intro lF lG)
  obtain ⟨xb, hxb⟩ : ∃ z, w.heap.size = z := ⟨_, rfl⟩
  obtain ⟨w1, hw1⟩ : ∃ z, (w.alloc (.cells #[.int .u8 p.op, .string p.nm, .slice an nn nc, .slice aa p.k ac] 25)).alloc (.cells #[.int .u8 q.op, .string q.nm, .slice bn mn mc, .slice ba q.k bc] 25) = z := ⟨_, rfl⟩
  have KA : Below w.heap.size w w1 := by rw [← hw1]; exact ((Below.refl _ w).alloc (Nat.le_refl _) _).alloc (by simp) _
  have HE : Hid (En w w1 xb p q an aa bn ba nn nc ac mn mc bc n m F G) := Lib.hid ⟨KA, hT.keep KA, by rw [← hw1, al_old _ _ (by simp; omega), ← hxb, al_new], by rw [← hw1, show xb + 1 = (w.alloc (.cells #[.int .u8 p.op, .string p.nm, .slice an nn nc, .slice aa p.k ac] 25)).heap.size by simp; omega, al_new], hF.keep KA, hG.keep KA⟩
  have HC := Lib.hid (count_any n _ F w1 HE.out.ex (by omega) (by omega))
  obtain ⟨Lx, hLx⟩ : ∃ z, (F 1).length = z := ⟨_, rfl⟩
  obtain ⟨Ly, hLy⟩ : ∃ z, (G 1).length = z := ⟨_, rfl⟩
  have HLX := Lib.hid (And.intro hLx hLy)
  rw [hLx] at HC lF
  rw [hLy] at lG
  have Lx0 : (0 : Int) ≤ (Lx : Int) := by omega
  have Ly0 : (0 : Int) ≤ (Ly : Int) := by omega
  clear KA hT hF hG hn hm hLx hLy
  have x0 := cell_blk HE.out.xa 0
  have x1 := cell_blk HE.out.xa 1
  have x2 := cell_blk HE.out.xa 2
  have x3 := cell_blk HE.out.xa 3
  have y0 := cell_blk HE.out.ya 0
  have y1 := cell_blk HE.out.ya 1
  have y2 := cell_blk HE.out.ya 2
  have y3 := cell_blk HE.out.ya 3
  go_enter Tryd.func5, Tryd.ntmps5
  go_wp2_with fail
  (with_reducible refine HC.out.mono ?_)
  rintro e w2 ⟨rfl, k1⟩
  have HE := Lib.hid (HE.out.keep k1)
  clear x0 x1 x2 x3 y0 y1 y2 y3
  clear k1 HC hw1 hxb
  by_cases c1 : 1000 < (Lx : Int)
  · skip
    have HQ := Lib.hid (awake_any w2 HE.out.tab)
    go_wp2_with fail
    (with_reducible refine HQ.out.mono ?_)
    rintro e wz ⟨rfl, q9⟩
    have HF9 := Lib.hid (HE.out.bw.trans (q9.mono HE.out.bw.size))
    clear q9
    go_wp2
    go_returns
    exact ⟨rfl, HF9.out⟩
  · have HC : Hid (Calls Tryd.prog 12 #[.agg #[.int .u8 q.op, .string q.nm, .slice bn mn mc, .slice ba q.k bc]] w2 fun e w' => e = .returned (.int .i64 (Ly : Int)) ∧ Below w2.heap.size w2 w') := Lib.hid (by rw [← HLX.out.2]; exact count_any m _ G w2 HE.out.ey (by have := HNM.out; omega) (by rw [HLX.out.2]; omega))
    have x0 := cell_blk HE.out.xa 0
    have x1 := cell_blk HE.out.xa 1
    have x2 := cell_blk HE.out.xa 2
    have x3 := cell_blk HE.out.xa 3
    have y0 := cell_blk HE.out.ya 0
    have y1 := cell_blk HE.out.ya 1
    have y2 := cell_blk HE.out.ya 2
    have y3 := cell_blk HE.out.ya 3
    go_wp2_with fail
    (with_reducible refine HC.out.mono ?_)
    rintro e w3 ⟨rfl, k1⟩
    have HE := Lib.hid (HE.out.keep k1)
    clear x0 x1 x2 x3 y0 y1 y2 y3
    clear k1 HC
    by_cases c2 : 1000 < (Ly : Int)
    · skip
      have HQ := Lib.hid (awake_any w3 HE.out.tab)
      go_wp2_with fail
      (with_reducible refine HQ.out.mono ?_)
      rintro e wz ⟨rfl, q9⟩
      have HF9 := Lib.hid (HE.out.bw.trans (q9.mono HE.out.bw.size))
      clear q9
      go_wp2
      go_returns
      exact ⟨rfl, HF9.out⟩
    · go_upto_region 3 with fail
      refine wp_region_held_drew (S := (fun W => W.cell? ⟨xb, 0, none⟩ = some (.int .u8 p.op) ∧ W.cell? ⟨xb, 1, none⟩ = some (.string p.nm) ∧ W.cell? ⟨xb, 2, none⟩ = some (.slice an nn nc) ∧ W.cell? ⟨xb, 3, none⟩ = some (.slice aa p.k ac) ∧ W.cell? ⟨xb + 1, 0, none⟩ = some (.int .u8 q.op) ∧ W.cell? ⟨xb + 1, 1, none⟩ = some (.string q.nm) ∧ W.cell? ⟨xb + 1, 2, none⟩ = some (.slice bn mn mc) ∧ W.cell? ⟨xb + 1, 3, none⟩ = some (.slice ba q.k bc) ∧ Hid (En w W xb p q an aa bn ba nn nc ac mn mc bc n m F G))) (by kernel_rfl) ?_ (fun hHeld => ?_)
      · exact ⟨cell_blk (HE.out.keep (Below.refl _ _).drew).xa 0, cell_blk (HE.out.keep (Below.refl _ _).drew).xa 1, cell_blk (HE.out.keep (Below.refl _ _).drew).xa 2, cell_blk (HE.out.keep (Below.refl _ _).drew).xa 3, cell_blk (HE.out.keep (Below.refl _ _).drew).ya 0, cell_blk (HE.out.keep (Below.refl _ _).drew).ya 1, cell_blk (HE.out.keep (Below.refl _ _).drew).ya 2, cell_blk (HE.out.keep (Below.refl _ _).drew).ya 3, Lib.hid (HE.out.keep (Below.refl _ _).drew)⟩
      refine wpAnyH_take (i := 0) (oi := _) (v := ?_) rfl (by kernel_rfl) (by kernel_rfl) (by kernel_rfl) (fun _ _ _ h => h) (Or.inl ⟨by kernel_rfl, ?_⟩) (by assumption) ?_
      rotate_left 1
      focus (intro wq hSw; (try dsimp only at hSw); obtain ⟨s0, s1, s2, s3, s4, s5, s6, s7, s8⟩ := hSw; go_simp; (try with_reducible rfl); done)
      try simp only [List.getElem_toArray, List.getElem_cons_zero, List.getElem_cons_succ, Act.put, List.setIfInBounds_toArray, List.set_cons_zero, List.set_cons_succ]
      refine wpAnyH_take (i := 2) (oi := _) (v := ?_) rfl (by kernel_rfl) (by kernel_rfl) (by kernel_rfl) (fun _ _ _ h => h) (Or.inl ⟨by kernel_rfl, ?_⟩) (by assumption) ?_
      rotate_left 1
      focus (intro wq hSw; (try dsimp only at hSw); obtain ⟨s0, s1, s2, s3, s4, s5, s6, s7, s8⟩ := hSw; go_simp; (try with_reducible rfl); done)
      try simp only [List.getElem_toArray, List.getElem_cons_zero, List.getElem_cons_succ, Act.put, List.setIfInBounds_toArray, List.set_cons_zero, List.set_cons_succ]
      refine wpAnyH_ready (rs := [1]) (by kernel_rfl) (by simp) ?_
      refine AllReadyH.cons (o := _) rfl (fun K hK => ?_) AllReadyH.nil
      rw [if_pos (by kernel_rfl)]
      go_simp
      (go_at_call 21; (with_reducible refine (names_any n _ F _ hHeld.2.2.2.2.2.2.2.2.out.ex (Nat.le_trans HNM.out.1 (by decide)) (Nat.le_trans HLL.out.1 (by decide))).mono ?_); rintro e z1 ⟨v1, rfl, HR1, q0⟩; have qq := q0.out)
      first | refine hK.out _ _ ?_ (fun hHeld => ?_) | (go_wp2_with fail; refine hK.out _ _ ?_ (fun hHeld => ?_))
      · exact ⟨cell_blk (hHeld.2.2.2.2.2.2.2.2.out.keep qq).xa 0, cell_blk (hHeld.2.2.2.2.2.2.2.2.out.keep qq).xa 1, cell_blk (hHeld.2.2.2.2.2.2.2.2.out.keep qq).xa 2, cell_blk (hHeld.2.2.2.2.2.2.2.2.out.keep qq).xa 3, cell_blk (hHeld.2.2.2.2.2.2.2.2.out.keep qq).ya 0, cell_blk (hHeld.2.2.2.2.2.2.2.2.out.keep qq).ya 1, cell_blk (hHeld.2.2.2.2.2.2.2.2.out.keep qq).ya 2, cell_blk (hHeld.2.2.2.2.2.2.2.2.out.keep qq).ya 3, Lib.hid (hHeld.2.2.2.2.2.2.2.2.out.keep qq)⟩
      clear hK K
      try simp only [List.getElem_toArray, List.getElem_cons_zero, List.getElem_cons_succ, Act.put, List.setIfInBounds_toArray, List.set_cons_zero, List.set_cons_succ]
      refine wpAnyH_ready (rs := [3]) (by kernel_rfl) (by simp) ?_
      refine AllReadyH.cons (o := _) rfl (fun K hK => ?_) AllReadyH.nil
      rw [if_pos (by kernel_rfl)]
      go_simp
      (go_at_call 21; (with_reducible refine (names_any m _ G _ hHeld.2.2.2.2.2.2.2.2.out.ey (Nat.le_trans HNM.out.2 (by decide)) (Nat.le_trans HLL.out.2 (by decide))).mono ?_); rintro e z2 ⟨v2, rfl, HR2, q0⟩; have qq := q0.out; have HR1 := Lib.hid (keepB HR1.out qq))
      first | refine hK.out _ _ ?_ (fun hHeld => ?_) | (go_wp2_with fail; refine hK.out _ _ ?_ (fun hHeld => ?_))
      · exact ⟨cell_blk (hHeld.2.2.2.2.2.2.2.2.out.keep qq).xa 0, cell_blk (hHeld.2.2.2.2.2.2.2.2.out.keep qq).xa 1, cell_blk (hHeld.2.2.2.2.2.2.2.2.out.keep qq).xa 2, cell_blk (hHeld.2.2.2.2.2.2.2.2.out.keep qq).xa 3, cell_blk (hHeld.2.2.2.2.2.2.2.2.out.keep qq).ya 0, cell_blk (hHeld.2.2.2.2.2.2.2.2.out.keep qq).ya 1, cell_blk (hHeld.2.2.2.2.2.2.2.2.out.keep qq).ya 2, cell_blk (hHeld.2.2.2.2.2.2.2.2.out.keep qq).ya 3, Lib.hid (hHeld.2.2.2.2.2.2.2.2.out.keep qq)⟩
      clear hK K
      try simp only [List.getElem_toArray, List.getElem_cons_zero, List.getElem_cons_succ, Act.put, List.setIfInBounds_toArray, List.set_cons_zero, List.set_cons_succ]
      refine wpAnyH_take (i := 4) (oi := _) (v := ?_) rfl (by kernel_rfl) (by kernel_rfl) (by kernel_rfl) (fun _ _ _ h => h) (Or.inl ⟨by kernel_rfl, ?_⟩) (by assumption) ?_
      rotate_left 1
      focus (intro wq hSw; (try dsimp only at hSw); obtain ⟨s0, s1, s2, s3, s4, s5, s6, s7, s8⟩ := hSw; go_simp; (try with_reducible rfl); done)
      try simp only [List.getElem_toArray, List.getElem_cons_zero, List.getElem_cons_succ, Act.put, List.setIfInBounds_toArray, List.set_cons_zero, List.set_cons_succ]
      refine wpAnyH_take (i := 5) (oi := _) (v := ?_) rfl (by kernel_rfl) (by kernel_rfl) (by kernel_rfl) (fun _ _ _ h => h) (Or.inl ⟨by kernel_rfl, ?_⟩) (by assumption) ?_
      rotate_left 1
      focus (intro wq hSw; (try dsimp only at hSw); obtain ⟨s0, s1, s2, s3, s4, s5, s6, s7, s8⟩ := hSw; go_simp; (try with_reducible rfl); done)
      try simp only [List.getElem_toArray, List.getElem_cons_zero, List.getElem_cons_succ, Act.put, List.setIfInBounds_toArray, List.set_cons_zero, List.set_cons_succ]
      refine wpAnyH_done (by kernel_rfl) ?_ _
      have HE := Lib.hid hHeld.2.2.2.2.2.2.2.2.out
      obtain ⟨A, hA⟩ : ∃ A, nmsOf (F 1) = A := ⟨_, rfl⟩
      obtain ⟨B, hB⟩ : ∃ B, nmsOf (G 1) = B := ⟨_, rfl⟩
      rw [hA] at HR1
      rw [hB] at HR2
      have HAB := Lib.hid (And.intro hA hB)
      obtain ⟨oa, ca, rfl, ha, hca⟩ := own_st2 HR1.out
      obtain ⟨ob, cb, rfl, hb, hcb⟩ := own_st2 HR2.out
      have HSA := Lib.hid ha
      have HSB := Lib.hid hb
      have HCA := Lib.hid hca
      have lA : A.length ≤ 1048576 := by rw [← hA]; exact Nat.le_trans (nms_le _) HLL.out.1
      have lB : B.length ≤ 1048576 := by rw [← hB]; exact Nat.le_trans (nms_le _) HLL.out.2
      clear hA hB ha hb hca hcb HR1 HR2
      obtain ⟨ub, hub⟩ : ∃ z, z2.heap.size = z := ⟨_, rfl⟩
      obtain ⟨wa, hwa⟩ : ∃ z, z2.alloc (.cells #[.int .u8 p.op, .string p.nm, .slice an nn nc, .slice aa p.k ac, .int .u8 q.op, .string q.nm, .slice bn mn mc, .slice ba q.k bc] 25) = z := ⟨_, rfl⟩
      have KA : Below z2.heap.size z2 wa := by rw [← hwa]; exact (Below.refl _ z2).alloc (Nat.le_refl _) _
      have XU : wa.heap[ub]? = some (.cells #[.int .u8 p.op, .string p.nm, .slice an nn nc, .slice aa p.k ac, .int .u8 q.op, .string q.nm, .slice bn mn mc, .slice ba q.k bc] 25 (0, 0)) := by rw [← hwa, ← hub, al_new]
      have x0 := cell_blk HE.out.xa 0
      have x1 := cell_blk HE.out.xa 1
      have x2 := cell_blk HE.out.xa 2
      have x3 := cell_blk HE.out.xa 3
      have y0 := cell_blk HE.out.ya 0
      have y1 := cell_blk HE.out.ya 1
      have y2 := cell_blk HE.out.ya 2
      have y3 := cell_blk HE.out.ya 3
      have HE := Lib.hid (HE.out.keep KA)
      have HSA := Lib.hid (HSA.out.keep KA)
      have HSB := Lib.hid (HSB.out.keep KA)
      have HEU := Lib.hid (ex_two (o := 10) (by decide) (by decide) (nat_nil wa) XU (HE.out.ex.more (Nat.le_max_left n m)) (HE.out.ey.more (Nat.le_max_right n m)))
      have HM := Lib.hid (made_any 10 (.slice none 0 0) (.slice (some ⟨ub, 0, none⟩) 2 2) wa _ _ _ _ _ _ rfl rfl)
      clear KA XU
      go_wp2_with fail
      (with_reducible refine HM.out.mono ?_)
      rintro e wb ⟨rfl, k1⟩
      have HE := Lib.hid (HE.out.keep k1)
      have HSA := Lib.hid (HSA.out.keep k1)
      have HSB := Lib.hid (HSB.out.keep k1)
      have HEU := Lib.hid (HEU.out.keep k1)
      clear k1 HM hwa hub x0 x1 x2 x3 y0 y1 y2 y3
      have HC3 := Lib.hid (names_any _ _ _ wb HEU.out (by have := HNM.out; omega) (by
        have l1 := ex_len HE.out.ex (1 + 1) 1
        have l2 := ex_len HE.out.ey (1 + 1) 1
        have h1 := HLX.out.1
        have h2 := HLX.out.2
        simp only [List.length_cons, List.length_append]
        omega))
      rw [nms_two HE.out.ex HE.out.ey (pt0 10 ⟨#[]⟩ [] 2) rfl, HAB.out.1, HAB.out.2] at HC3
      go_wp2_with fail
      (with_reducible refine HC3.out.mono ?_)
      rintro e wc ⟨v3, rfl, HR3, k0⟩
      have HE := Lib.hid (HE.out.keep k0.out)
      have HSA := Lib.hid (HSA.out.keep k0.out)
      have HSB := Lib.hid (HSB.out.keep k0.out)
      obtain ⟨oc, cc, rfl, hc, _⟩ := own_st2 HR3.out
      have HSC := Lib.hid hc
      clear k0 HC3 HR3 HEU hc
      go_upto_region 5 with fail
      obtain ⟨eb, heb⟩ : ∃ z, wc.heap.size = z := ⟨_, rfl⟩
      obtain ⟨wd, hwd⟩ : ∃ z, wc.alloc (.cells #[] 9) = z := ⟨_, rfl⟩
      have KD : Hid (Below wc.heap.size wc wd) := Lib.hid (by rw [← hwd]; exact (Below.refl _ wc).alloc (Nat.le_refl _) _)
      have HEO : Hid (wd.ownsRow wc.heap.size 9 1 (.slice (some ⟨eb, 0, none⟩) 0 0) 0 []) := Lib.hid ⟨rfl, .inr ⟨eb, 0, #[], rfl, by omega, by rw [← hwd, ← heb, al_new], Nat.le_refl _, Nat.zero_le _, rfl, rfl⟩⟩
      go_wp2_with (at_builtin; go_loud (refine appT rfl _ _ rfl wc.heap.size wd (.slice (some ⟨eb, 0, none⟩) 0 0) 0 [] rfl HEO.out oa A.length ca A rfl (HSA.out.keep KD.out) HCA.out (by omega) KD.out.size ?_); intro v4 we HO4 HG4; have HO4 := Lib.hid HO4; have HG4 := Lib.hid HG4; clear hwd heb)
      have HW0 : Hid (we.ownsRow wc.heap.size 9 1 v4 (A ++ rest A (B.take 0)).length ((A ++ rest A (B.take 0)).map Value.string)) := Lib.hid (by have h := HO4.out; simpa [rest] using h)
      have KE : Hid (Below wc.heap.size wc we) := Lib.hid (KD.out.grown HG4.out KD.out.size (fun q e => (HEO.out.lt q e).1))
      clear HO4 HG4 HEO KD
      have nA0 : (0 : Int) ≤ (A.length : Int) := by omega
      have nA1 : (A.length : Int) ≤ 1048576 := by omega
      have nB0 : (0 : Int) ≤ (B.length : Int) := by omega
      have nB1 : (B.length : Int) ≤ 1048576 := by omega
      go_loopw [8, 10, 11, 13, 39] (fun s8 s10 s11 s13 ii wr => ∃ k : Nat, k ≤ B.length ∧ ii = .int .i64 k ∧ Hid (Below wc.heap.size wc wr) ∧ Hid (wr.ownsRow wc.heap.size 9 1 s8 (A ++ rest A (B.take k)).length ((A ++ rest A (B.take k)).map Value.string))) (fun s8 s10 s11 s13 ii _ => B.length - (intOf ii).toNat)
      case atStart => exact ⟨0, Nat.zero_le _, rfl, KE, HW0⟩
      case round =>
        clear KE HW0
        obtain ⟨k, hk, rfl, KE, HW⟩ := hrel
        have i0 : (0 : Int) ≤ (k : Int) := by omega
        obtain ⟨wo, rfl⟩ : ∃ wo : World, wo = wr := ⟨_, rfl⟩
        by_cases klt : k < B.length
        · have i1 : (k : Int) < B.length := by omega
          obtain ⟨yb, rfl, hy⟩ := HSB.out.here (by omega)
          have b0 := cell_keep (hy k klt) KE.out
          obtain ⟨S, hS⟩ : ∃ S, B[k] = S := ⟨_, rfl⟩
          rw [hS] at b0
          have HTK : Hid (B.take (k + 1) = B.take k ++ [S]) := Lib.hid (by rw [List.take_succ_eq_append_getElem klt, hS])
          clear hy hS
          go_upto_region 11 with fail
          clear b0
          go_loopw [11, 13, 45] (fun s11 s13 ii wr => ∃ (i : Nat) (r : Bool), i ≤ A.length ∧ ii = .int .i64 i ∧ s11 = .bool r ∧ wr = wo ∧ Hid (r = true ↔ S ∈ A.take i)) (fun s11 s13 ii _ => A.length - (intOf ii).toNat)
          case atStart => exact ⟨0, false, Nat.zero_le _, rfl, rfl, rfl, Lib.hid (by simp)⟩
          case round =>
            obtain ⟨i, r, hi, rfl, rfl, rfl, HR⟩ := hrel
            have j0 : (0 : Int) ≤ (i : Int) := by omega
            by_cases ilt : i < A.length
            · have j1 : (i : Int) < A.length := by omega
              obtain ⟨ya, rfl, hy⟩ := HSA.out.here (by omega)
              have a0 := cell_keep (hy i ilt) KE.out
              obtain ⟨T, hT⟩ : ∃ T, A[i] = T := ⟨_, rfl⟩
              rw [hT] at a0
              have HTI : Hid (A.take (i + 1) = A.take i ++ [T]) := Lib.hid (by rw [List.take_succ_eq_append_getElem ilt, hT])
              clear hy hT
              cases r
              · by_cases e : S = T
                · subst e
                  have HR2 : Hid (true = true ↔ S ∈ A.take (i + 1)) := Lib.hid (by rw [HTI.out]; simp)
                  go_wp2
                  go_roundw
                  case rel => exact ⟨i + 1, true, by omega, by go_num, rfl, by first | rfl | trivial, HR2⟩
                  case measure => simp [intOf]; omega
                · have h2 : (S.toList == T.toList) = false := by
                    cases z : S.toList == T.toList
                    · rfl
                    · rw [beq_iff_eq] at z
                      rw [ByteArray.toList_eq, ByteArray.toList_eq] at z
                      exact absurd (kl_inj (congrArg Lit.string z)) e
                  have HR2 : Hid (false = true ↔ S ∈ A.take (i + 1)) := Lib.hid (by rw [HTI.out, List.mem_append, List.mem_singleton, ← HR.out]; simp [e])
                  go_wp2
                  go_roundw
                  case rel => exact ⟨i + 1, false, by omega, by go_num, rfl, by first | rfl | trivial, HR2⟩
                  case measure => simp [intOf]; omega
              · have HR2 : Hid (true = true ↔ S ∈ A.take (i + 1)) := Lib.hid (by rw [HTI.out, List.mem_append, ← HR.out]; simp)
                go_wp2
                go_roundw
                case rel => exact ⟨i + 1, true, by omega, by go_num, rfl, by first | rfl | trivial, HR2⟩
                case measure => simp [intOf]; omega
            · have j1 : (A.length : Int) ≤ (i : Int) := by omega
              have HR3 : Hid (r = true ↔ S ∈ A) := Lib.hid (by rw [HR.out, List.take_of_length_le (by omega)])
              clear HR
              cases r
              · have HLE : Hid ((A ++ rest A (B.take k)).length + 1 ≤ 4194304) := Lib.hid (by
                  have a1 : (rest A (B.take k)).length ≤ (B.take k).length := List.length_filter_le _ _
                  have a2 : (B.take k).length ≤ B.length := by rw [List.length_take]; omega
                  rw [List.length_append]; omega)
                have HNI : Hid (¬ isIn S A = true) := Lib.hid (fun h => by have := HR3.out.2 ((isIn_iff _ _).1 h); cases this)
                go_wp2_with (at_builtin; go_loud (refine appS rfl _ _ rfl wc.heap.size _ u8 (A ++ rest A (B.take k)).length ((A ++ rest A (B.take k)).map Value.string) rfl ((HW.out).alloc _) wr.heap.size 1 #[.string S] rfl (al_new wr _) rfl (by simp [Value.oneCell']) HLE.out (by have := KE.out.size; simp; omega) ?_); intro v6 w6 HO6 HG6; have HO6 := Lib.hid HO6; have HG6 := Lib.hid HG6)
                have HW2 : Hid (w6.ownsRow wc.heap.size 9 1 v6 (A ++ rest A (B.take (k + 1))).length ((A ++ rest A (B.take (k + 1))).map Value.string)) := Lib.hid (by
                  rw [HTK.out, rest_snoc, if_neg HNI.out, ← List.append_assoc, List.length_append, List.map_append]; exact HO6.out)
                have KE2 : Hid (Below wc.heap.size wc w6) := Lib.hid (by
                  have KQ : Below wc.heap.size wc (wr.alloc (.cells #[.string S] 9)) := KE.out.alloc KE.out.size _
                  exact KQ.grown HG6.out KQ.size (fun q e => (HW.out.lt q e).1))
                clear HO6 HG6
                refine ⟨⟨k + 1, by omega, by go_num, KE2, HW2⟩, ?_⟩
                simp [intOf]; omega
              · have HW2 : Hid (wr.ownsRow wc.heap.size 9 1 u8 (A ++ rest A (B.take (k + 1))).length ((A ++ rest A (B.take (k + 1))).map Value.string)) := Lib.hid (by
                  rw [HTK.out, rest_snoc, if_pos ((isIn_iff _ _).2 (HR3.out.1 rfl))]; exact HW.out)
                go_wp2
                go_roundw
                case rel => exact ⟨k + 1, by omega, by go_num, KE, HW2⟩
                case measure => simp [intOf]; omega
        · have i1 : (B.length : Int) ≤ (k : Int) := by omega
          obtain ⟨ow, cw, rfl, hw⟩ := own_st HW.out
          rw [List.take_of_length_le (by omega)] at hw ⊢
          have hc2 := HSC.out.keep KE.out
          rw [List.length_append] at hw hc2 ⊢
          have HTX := Lib.hid (texts_same oc ow _ cc cw _ wo hc2 hw)
          have HE := Lib.hid (HE.out.keep KE.out)
          have HSA := Lib.hid (HSA.out.keep KE.out)
          clear hw hc2 HW KE
          go_wp2_with fail
          (with_reducible refine HTX.out.mono ?_)
          rintro e wt ⟨rfl, k1⟩
          have HE := Lib.hid (HE.out.keep k1)
          have HSA := Lib.hid (HSA.out.keep k1)
          clear k1 HTX
          obtain ⟨r, hr⟩ : ∃ r : Bool, r = true ↔ RightL (F 1) := by classical exact ⟨decide _, decide_eq_true_iff⟩
          have HRT := Lib.hid (fun W (h : En w W xb p q an aa bn ba nn nc ac mn mc bc n m F G) => right_any n _ F W h.tab h.ex (Nat.le_trans HNM.out.1 (by decide)) (Nat.le_trans HLL.out.1 (by decide)) r hr)
          have HNE : Hid (r = true → 1 ≤ (A.length : Int)) := Lib.hid (fun h => by
            have := right_ne HE.out.ex (hr.1 h)
            rw [HAB.out.1] at this
            cases A with
            | nil => exact absurd rfl this
            | cons a b => simp; omega)
          have HNR : Hid (∀ s, s ∈ A → s.size ≤ maxLen ∧ (r = true → RightL [(pt0 0 s [] 0, (1 : Int))])) := Lib.hid (fun s hs => by
            rw [← HAB.out.1] at hs
            obtain ⟨_, x, hx, hx2⟩ := (mem_nms _ _).1 hs
            exact ⟨hx2 ▸ (ex_heads HE.out.ex 1 x hx).2, fun h => right_names HE.out.ex (hr.1 h) s hs⟩)
          clear hr
          have x0 := cell_blk HE.out.xa 0
          have x1 := cell_blk HE.out.xa 1
          have x2 := cell_blk HE.out.xa 2
          have x3 := cell_blk HE.out.xa 3
          go_wp2_with fail
          (with_reducible refine (HRT.out _ HE.out).mono ?_)
          rintro e ws ⟨rfl, k1⟩
          have HE := Lib.hid (HE.out.keep k1)
          have HSA := Lib.hid (HSA.out.keep k1)
          clear k1 x0 x1 x2 x3
          cases r
          · skip
            go_upto_region 21 with fail
            go_loopw [15, 78] (fun s15 ii wr => ∃ i : Nat, i ≤ A.length ∧ ii = .int .i64 i ∧ Hid (En w wr xb p q an aa bn ba nn nc ac mn mc bc n m F G) ∧ Hid (StAt wr oa A.length ca A)) (fun s15 ii _ => A.length - (intOf ii).toNat)
            case atStart => exact ⟨0, Nat.zero_le _, rfl, HE, HSA⟩
            case round =>
              clear HE HSA
              obtain ⟨i, hi, rfl, HE, HSA⟩ := hrel
              have j0 : (0 : Int) ≤ (i : Int) := by omega
              by_cases ilt : i < A.length
              · have j1 : (i : Int) < A.length := by omega
                obtain ⟨ya, rfl, hy⟩ := HSA.out.here (by omega)
                have a0 := hy i ilt
                obtain ⟨T, hT⟩ : ∃ T, A[i] = T := ⟨_, rfl⟩
                rw [hT] at a0
                clear hy hT
                have x0 := cell_blk HE.out.xa 0
                have x1 := cell_blk HE.out.xa 1
                have x2 := cell_blk HE.out.xa 2
                have x3 := cell_blk HE.out.xa 3
                go_wp2_with fail
                (with_reducible refine (HRT.out _ HE.out).mono ?_)
                rintro e u1 ⟨rfl, k1⟩
                have HE := Lib.hid (HE.out.keep k1)
                have HSA := Lib.hid (HSA.out.keep k1)
                clear k1 x0 x1 x2 x3 a0
                go_wp2
                go_roundw
                case rel => exact ⟨i + 1, by omega, by go_num, HE, HSA⟩
                case measure => simp [intOf]; omega
              · have j1 : (A.length : Int) ≤ (i : Int) := by omega
                have HQ := Lib.hid (awake_any wr HE.out.tab)
                go_wp2_with fail
                (with_reducible refine HQ.out.mono ?_)
                rintro e wz ⟨rfl, q9⟩
                have HF9 := Lib.hid (HE.out.bw.trans (q9.mono HE.out.bw.size))
                clear q9
                go_wp2
                go_returns
                exact ⟨rfl, HF9.out⟩
          · have HA1 := HNE.out rfl
            have HA2 : ((A.length : Int) == 0) = false := by simp; intro e; subst e; simp at HA1
            go_upto_region 21 with fail
            go_loopw [15, 78] (fun s15 ii wr => ∃ i : Nat, i ≤ A.length ∧ ii = .int .i64 i ∧ Hid (En w wr xb p q an aa bn ba nn nc ac mn mc bc n m F G) ∧ Hid (StAt wr oa A.length ca A)) (fun s15 ii _ => A.length - (intOf ii).toNat)
            case atStart => exact ⟨0, Nat.zero_le _, rfl, HE, HSA⟩
            case round =>
              clear HE HSA
              obtain ⟨i, hi, rfl, HE, HSA⟩ := hrel
              have j0 : (0 : Int) ≤ (i : Int) := by omega
              by_cases ilt : i < A.length
              · have j1 : (i : Int) < A.length := by omega
                obtain ⟨ya, rfl, hy⟩ := HSA.out.here (by omega)
                have a0 := hy i ilt
                obtain ⟨T, hT⟩ : ∃ T, A[i] = T := ⟨_, rfl⟩
                rw [hT] at a0
                have HNV := HNR.out T (by rw [← hT]; exact List.getElem_mem _)
                have HNV1 := Lib.hid HNV.1
                have HNV2 := Lib.hid (HNV.2 (by first | rfl | trivial))
                clear HNV
                clear hy hT
                have x0 := cell_blk HE.out.xa 0
                have x1 := cell_blk HE.out.xa 1
                have x2 := cell_blk HE.out.xa 2
                have x3 := cell_blk HE.out.xa 3
                go_wp2_with fail
                (with_reducible refine (HRT.out _ HE.out).mono ?_)
                rintro e u1 ⟨rfl, k1⟩
                have HE := Lib.hid (HE.out.keep k1)
                have HSA := Lib.hid (HSA.out.keep k1)
                clear k1 x0 x1 x2 x3 a0
                have HNM2 := Lib.hid (named_any T u1)
                go_wp2_with fail
                (with_reducible refine HNM2.out.mono ?_)
                rintro e u2 ⟨rfl, k1⟩
                have HE := Lib.hid (HE.out.keep k1)
                have HSA := Lib.hid (HSA.out.keep k1)
                clear k1 HNM2
                have HRN := Lib.hid (right_any 1 _ _ u2 HE.out.tab (ex_name u2 0 T (by decide) (by decide) HNV1.out) (by decide) (by show (1 : Nat) ≤ 1000000000000; decide) true ⟨fun _ => HNV2.out, fun _ => rfl⟩)
                go_wp2_with fail
                (with_reducible refine HRN.out.mono ?_)
                rintro e u3 ⟨rfl, k1⟩
                have HE := Lib.hid (HE.out.keep k1)
                have HSA := Lib.hid (HSA.out.keep k1)
                clear k1 HRN
                go_wp2
                go_roundw
                case rel => exact ⟨i + 1, by omega, by go_num, HE, HSA⟩
                case measure => simp [intOf]; omega
              · have j1 : (A.length : Int) ≤ (i : Int) := by omega
                have HQ := Lib.hid (awake_any wr HE.out.tab)
                go_wp2_with fail
                (with_reducible refine HQ.out.mono ?_)
                rintro e wz ⟨rfl, q9⟩
                have HF9 := Lib.hid (HE.out.bw.trans (q9.mono HE.out.bw.size))
                clear q9
                go_wp2
                go_returns
                exact ⟨rfl, HF9.out⟩
end Go.Proofs.YtgealkflfmeicaaDoor
