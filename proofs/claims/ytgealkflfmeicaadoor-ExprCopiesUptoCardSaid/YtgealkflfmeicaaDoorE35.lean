/- ExprCopies: two copies. -/
import Derived.Test.YtgealkflfmeicaaDoorE34
import Derived.Test.YtgealkflfmeicaaDoorE31
import Derived.Test.YtgealkflfmeicaaDoorE27
import Derived.Test.YtgealkflfmeicaaDoorE33
import Derived.Test.YtgealkflfmeicaaDoorE32
namespace Go.Proofs.YtgealkflfmeicaaDoor
set_option linter.unusedVariables false
set_option linter.unusedSimpArgs false
open Go.ChangeShapes Go.WideShapes Go.ChangeAt Go.RowKit
/-- A list of bytes in memory. -/
structure BAt (w : World) (ao : Option Addr) (n c : Nat) (l : List Int) : Prop where
  len : l.length = n
  le : n ≤ c
  top : c ≤ 9223372036854775807
  here : 0 < n → ∃ b p, ao = some ⟨b, p, none⟩ ∧ ∀ i (h : i < l.length), w.cell? ⟨b, p + i, none⟩ = some (.int .u8 l[i]) ∧ 0 ≤ l[i] ∧ l[i] ≤ 255
theorem BAt.keep {w w' : World} {ao : Option Addr} {n c : Nat} {l : List Int} (h : BAt w ao n c l) (k : Below w.heap.size w w') : BAt w' ao n c l :=
  ⟨h.len, h.le, h.top, fun h0 => by
    obtain ⟨b, p, e, hc⟩ := h.here h0
    exact ⟨b, p, e, fun i hi => ⟨cell_keep (hc i hi).1 k, (hc i hi).2⟩⟩⟩
/-- The expression and its two copies in their boxes. -/
structure Tw (w0 w : World) (xb by_ bk n : Nat) (p : Pt) (an aa : Option Addr) (nn nc ac : Nat) (F : Tour) (L H L2 H2 : Nat) (x0 x1 x2 x3 z0 z1 z2 z3 : Value) : Prop where
  bw : Below w0.heap.size w0 w
  xa : w.heap[xb]? = some (.cells #[.int .u8 p.op, .string p.nm, .slice an nn nc, .slice aa p.k ac] 25 (0, 0))
  ya : w.heap[by_]? = some (.cells #[x0, x1, x2, x3] 25 (0, 0))
  ey : Own w n L H (.agg #[x0, x1, x2, x3]) F
  ka : w.heap[bk]? = some (.cells #[z0, z1, z2, z3] 25 (0, 0))
  ek : Own w n L2 H2 (.agg #[z0, z1, z2, z3]) F
  ar : w0.heap.size ≤ xb ∧ xb < by_ ∧ xb < bk ∧ xb < L ∧ xb < L2 ∧ by_ ≠ bk ∧ H ≤ L2 ∧ ¬ (L ≤ by_ ∧ by_ < H) ∧ ¬ (L ≤ bk ∧ bk < H) ∧ ¬ (L2 ≤ by_ ∧ by_ < H2) ∧ ¬ (L2 ≤ bk ∧ bk < H2) ∧ H ≤ w.heap.size ∧ H2 ≤ w.heap.size
theorem Own.below {w w' : World} {n lo hi : Nat} {v : Value} {F : Tour} (h : Own w n lo hi v F) (hs : hi ≤ w.heap.size) (q : Below w.heap.size w w') : Own w' n lo hi v F := h.keep (fun r _ b => q.block r (Nat.lt_of_lt_of_le b hs))
theorem blk_keep {w w' : World} {b : Nat} {o : Obj} (h : w.heap[b]? = some o) (q : Below w.heap.size w w') : w'.heap[b]? = some o := (q.block b (Array.getElem?_eq_some_iff.1 h).1).trans h
theorem Tw.keep {w0 w w' : World} {xb by_ bk n : Nat} {p : Pt} {an aa : Option Addr} {nn nc ac : Nat} {F : Tour} {L H L2 H2 : Nat} {x0 x1 x2 x3 z0 z1 z2 z3 : Value} (h : Tw w0 w xb by_ bk n p an aa nn nc ac F L H L2 H2 x0 x1 x2 x3 z0 z1 z2 z3) (q : Below w.heap.size w w') : Tw w0 w' xb by_ bk n p an aa nn nc ac F L H L2 H2 x0 x1 x2 x3 z0 z1 z2 z3 := by
  have ar := h.ar
  have qs := q.size
  exact ⟨h.bw.trans (q.mono h.bw.size), blk_keep h.xa q, blk_keep h.ya q, h.ey.below (by omega) q, blk_keep h.ka q, h.ek.below (by omega) q, by omega⟩
theorem own_head {w : World} : ∀ {n lo hi : Nat} {v : Value} {F : Tour}, Own w n lo hi v F → ∃ (p : Pt) (an : Option Addr) (nn nc : Nat) (aa : Option Addr) (ac : Nat), v = .agg #[.int .u8 p.op, .string p.nm, .slice an nn nc, .slice aa p.k ac]
  | 0, _, _, _, _, h => h.elim
  | n + 1, lo, hi, v, F, h => by
    obtain ⟨p, an, nn, nc, aa, ac, g, cur, Fs, cut, e1, _⟩ := h
    exact ⟨p, an, nn, nc, aa, ac, e1⟩
def put44 (W : World) (b : Nat) (x0 x1 x2 x3 : Value) : World := (((W.setCell ⟨b, 0, none⟩ x0).setCell ⟨b, 1, none⟩ x1).setCell ⟨b, 2, none⟩ x2).setCell ⟨b, 3, none⟩ x3
theorem put44_on {W : World} {b : Nat} {a0 a1 a2 a3 : Value} (h : W.heap[b]? = some (.cells #[a0, a1, a2, a3] 25 (0, 0))) (x0 x1 x2 x3 : Value) : (put44 W b x0 x1 x2 x3).heap[b]? = some (.cells #[x0, x1, x2, x3] 25 (0, 0)) := by
  have e0 := set_block h 0 x0
  have e1 := set_block e0 1 x1
  have e2 := set_block e1 2 x2
  have e3 := set_block e2 3 x3
  exact e3
theorem put44_off (W : World) (b : Nat) (x0 x1 x2 x3 : Value) {r : Nat} (h : r ≠ b) : (put44 W b x0 x1 x2 x3).heap[r]? = W.heap[r]? := by
  unfold put44
  rw [set_other h, set_other h, set_other h, set_other h]
theorem put44_below {B : Nat} {a W : World} {b : Nat} (h : Below B a W) (hb : B ≤ b) (x0 x1 x2 x3 : Value) : Below B a (put44 W b x0 x1 x2 x3) :=
  (((h.setCell (p := ⟨b, 0, none⟩) hb x0).setCell (p := ⟨b, 1, none⟩) hb x1).setCell (p := ⟨b, 2, none⟩) hb x2).setCell (p := ⟨b, 3, none⟩) hb x3
theorem put44_size (W : World) (b : Nat) (x0 x1 x2 x3 : Value) : (put44 W b x0 x1 x2 x3).heap.size = W.heap.size := by simp [put44, World.setCell]
structure Tv (w0 w : World) (xb by_ bk n : Nat) (p : Pt) (an aa : Option Addr) (nn nc ac : Nat) (F : Tour) (L H L2 H2 : Nat) (x0 x1 x2 x3 z0 z1 z2 z3 : Value) : Prop where
  bw : Below w0.heap.size w0 w
  xa : w.heap[xb]? = some (.cells #[.int .u8 p.op, .string p.nm, .slice an nn nc, .slice aa p.k ac] 25 (0, 0))
  ya : w.heap[by_]? = some (.cells #[.int .u8 0, .string ⟨#[]⟩, .slice none 0 0, .slice none 0 0] 25 (0, 0))
  ey : Own w n L H (.agg #[x0, x1, x2, x3]) F
  ka : w.heap[bk]? = some (.cells #[.int .u8 0, .string ⟨#[]⟩, .slice none 0 0, .slice none 0 0] 25 (0, 0))
  ek : Own w n L2 H2 (.agg #[z0, z1, z2, z3]) F
  ar : w0.heap.size ≤ xb ∧ xb < by_ ∧ xb < bk ∧ xb < L ∧ xb < L2 ∧ by_ ≠ bk ∧ H ≤ L2 ∧ ¬ (L ≤ by_ ∧ by_ < H) ∧ ¬ (L ≤ bk ∧ bk < H) ∧ ¬ (L2 ≤ by_ ∧ by_ < H2) ∧ ¬ (L2 ≤ bk ∧ bk < H2) ∧ H ≤ w.heap.size ∧ H2 ≤ w.heap.size
theorem Tv.put {w W : World} {xb by_ bk n : Nat} {p : Pt} {an aa : Option Addr} {nn nc ac : Nat} {F : Tour} {L H L2 H2 : Nat} {x0 x1 x2 x3 z0 z1 z2 z3 : Value} (h : Tv w W xb by_ bk n p an aa nn nc ac F L H L2 H2 x0 x1 x2 x3 z0 z1 z2 z3) :
    Tw w (put44 (put44 W by_ x0 x1 x2 x3) bk z0 z1 z2 z3) xb by_ bk n p an aa nn nc ac F L H L2 H2 x0 x1 x2 x3 z0 z1 z2 z3 := by
  have ar := h.ar
  have off : ∀ r, r ≠ by_ → r ≠ bk → (put44 (put44 W by_ x0 x1 x2 x3) bk z0 z1 z2 z3).heap[r]? = W.heap[r]? := fun r a b => (put44_off _ _ _ _ _ _ b).trans (put44_off _ _ _ _ _ _ a)
  exact ⟨put44_below (put44_below h.bw (by omega) _ _ _ _) (by omega) _ _ _ _, (off xb (by omega) (by omega)).trans h.xa, (put44_off _ _ _ _ _ _ (by omega)).trans (put44_on h.ya _ _ _ _), h.ey.keep (fun r a b => off r (by omega) (by omega)), put44_on ((put44_off _ _ _ _ _ _ (by omega)).trans h.ka) _ _ _ _, h.ek.keep (fun r a b => off r (by omega) (by omega)), by rw [put44_size, put44_size]; exact ar⟩

/-- Behind the change. -/
structure Af (w0 w : World) (xb by_ bk n : Nat) (p q : Pt) (an aa bn ba : Option Addr) (nn nc ac mn mc bc : Nat) (F F2 : Tour) (z0 z1 z2 z3 : Value) : Prop where
  bw : Below w0.heap.size w0 w
  xa : w.heap[xb]? = some (.cells #[.int .u8 p.op, .string p.nm, .slice an nn nc, .slice aa p.k ac] 25 (0, 0))
  y0 : w.cell? ⟨by_, 0, none⟩ = some (.int .u8 q.op)
  y1 : w.cell? ⟨by_, 1, none⟩ = some (.string q.nm)
  y2 : w.cell? ⟨by_, 2, none⟩ = some (.slice bn mn mc)
  y3 : w.cell? ⟨by_, 3, none⟩ = some (.slice ba q.k bc)
  ey : ExAt w n (.agg #[.int .u8 q.op, .string q.nm, .slice bn mn mc, .slice ba q.k bc]) F2
  ne : ¬ F2 = F
  ka : w.heap[bk]? = some (.cells #[z0, z1, z2, z3] 25 (0, 0))
  ek : ExAt w n (.agg #[z0, z1, z2, z3]) F
theorem Af.keep {w0 w w' : World} {xb by_ bk n : Nat} {p q : Pt} {an aa bn ba : Option Addr} {nn nc ac mn mc bc : Nat} {F F2 : Tour} {z0 z1 z2 z3 : Value} (h : Af w0 w xb by_ bk n p q an aa bn ba nn nc ac mn mc bc F F2 z0 z1 z2 z3) (k : Below w.heap.size w w') : Af w0 w' xb by_ bk n p q an aa bn ba nn nc ac mn mc bc F F2 z0 z1 z2 z3 :=
  ⟨h.bw.trans (k.mono h.bw.size), blk_keep h.xa k, cell_keep h.y0 k, cell_keep h.y1 k, cell_keep h.y2 k, cell_keep h.y3 k, h.ey.keep k, h.ne, blk_keep h.ka k, h.ek.keep k⟩
theorem Tw.af {w W : World} {xb by_ bk n : Nat} {p : Pt} {an aa : Option Addr} {nn nc ac : Nat} {F : Tour} {L H L2 H2 : Nat} {x0 x1 x2 x3 z0 z1 z2 z3 : Value} (h : Tw w W xb by_ bk n p an aa nn nc ac F L H L2 H2 x0 x1 x2 x3 z0 z1 z2 z3) {g k : Nat} {u : Value} (hg : g = by_ ∨ (L ≤ g ∧ g < H)) (hd : Dif (W.setCell ⟨g, k, none⟩ u) by_ n F) :
    ∃ (q : Pt) (bn : Option Addr) (mn mc : Nat) (ba : Option Addr) (bc : Nat) (F2 : Tour), Af w (W.setCell ⟨g, k, none⟩ u) xb by_ bk n p q an aa bn ba nn nc ac mn mc bc F F2 z0 z1 z2 z3 := by
  have ar := h.ar
  obtain ⟨c0, c1, c2, c3, F2, ⟨e0, e1, e2, e3⟩, hx, hne⟩ := hd
  obtain ⟨q, bn, mn, mc, ba, bc, e, _⟩ := hx.head
  obtain ⟨rfl, rfl, rfl, rfl⟩ := agg_inj e
  exact ⟨q, bn, mn, mc, ba, bc, F2, h.bw.setCell (p := ⟨g, k, none⟩) (by show w.heap.size ≤ g; omega) u, (set_other (by omega)).trans h.xa, e0, e1, e2, e3, hx, hne, (set_other (by omega)).trans h.ka, (h.ek.keep (fun r a b => set_other (by omega))).ex⟩
set_option maxRecDepth 8000 in
set_option maxHeartbeats 4000000 in
theorem exprCopies_walk (n : Nat) (v : Value) (F : Tour) (ko : Option Addr) (kn kc : Nat) (kl : List Int) (h8 : Int) (w : World) (hT : Tabn w) (hF : ExAt w n v F) (hn : n ≤ 1048576) (lF : (F 1).length ≤ 1048576) (sF : SmL (F 1)) (hK : BAt w ko kn kc kl) (h80 : 0 ≤ h8) (h81 : h8 ≤ 255) :
    Calls Tryd.prog 4 #[v, .slice ko kn kc, .int .u8 h8] w fun e w' => e = .returned (.bool true) ∧ Below w.heap.size w w' := by
  obtain ⟨p, an, nn, nc, aa, ac, rfl, _⟩ := hF.head
  obtain ⟨xb, hxb⟩ : ∃ z, w.heap.size = z := ⟨_, rfl⟩
  obtain ⟨w1, hw1⟩ : ∃ z, w.alloc (.cells #[.int .u8 p.op, .string p.nm, .slice an nn nc, .slice aa p.k ac] 25) = z := ⟨_, rfl⟩
  have KA : Hid (Below w.heap.size w w1) := Lib.hid (by rw [← hw1]; exact (Below.refl _ w).alloc (Nat.le_refl _) _)
  have XA : Hid (w1.heap[xb]? = some (.cells #[.int .u8 p.op, .string p.nm, .slice an nn nc, .slice aa p.k ac] 25 (0, 0))) := Lib.hid (by rw [← hw1, ← hxb, al_new])
  have HXL : Hid (w.heap.size ≤ xb) := Lib.hid (by omega)
  have C6 := Lib.hid (small_any n _ F w1 (hF.keep KA.out) lF)
  have C23 : Hid (∀ W, Below w.heap.size w W → Calls Tryd.prog 23 #[.agg #[.int .u8 p.op, .string p.nm, .slice an nn nc, .slice aa p.k ac]] W fun e w' => ∃ (p : Pt) (an : Option Addr) (nn nc : Nat) (aa : Option Addr) (ac : Nat), e = .returned (.agg #[.int .u8 p.op, .string p.nm, .slice an nn nc, .slice aa p.k ac]) ∧ Hid (Own w' n W.heap.size w'.heap.size (.agg #[.int .u8 p.op, .string p.nm, .slice an nn nc, .slice aa p.k ac]) F) ∧ Below W.heap.size W w') := Lib.hid (fun W h => (copy_any n _ F W (hF.keep h) sF lF).mono (by
    rintro e w' ⟨v', rfl, b, o⟩
    obtain ⟨p', an', nn', nc', aa', ac', rfl⟩ := own_head o
    exact ⟨p', an', nn', nc', aa', ac', rfl, Lib.hid o, b⟩))
  obtain ⟨Lx, hLx⟩ : ∃ z, ((F 1).length : Int) = z := ⟨_, rfl⟩
  rw [hLx] at C6
  have x0 := cell_blk XA.out 0
  have x1 := cell_blk XA.out 1
  have x2 := cell_blk XA.out 2
  have x3 := cell_blk XA.out 3
  go_enter Tryd.func4, Tryd.ntmps4
  go_wp2_with fail
  (with_reducible refine C6.out.mono ?_)
  rintro e w2 ⟨rfl, k1⟩
  clear x0 x1 x2 x3 hw1 hxb
  have XA := Lib.hid (blk_keep XA.out k1)
  have KA := Lib.hid (KA.out.trans (k1.mono KA.out.size))
  clear k1 C6
  by_cases c1 : Lx ≤ 3000
  · have d1 : decide (Lx ≤ 3000) = true := decide_eq_true c1
    go_upto_region 3 with fail
    go_cut [7, 8] from 16 to 19 (fun s7 s8 wx => ∃ b7 b8, s7 = .pointer (some ⟨b7, 0, none⟩) ∧ s8 = .pointer (some ⟨b8, 0, none⟩) ∧ Hid (∃ L H L2 H2 x0 x1 x2 x3 z0 z1 z2 z3, Tw w wx xb b7 b8 n p an aa nn nc ac F L H L2 H2 x0 x1 x2 x3 z0 z1 z2 z3))
    case first =>
      refine wp_region_held_drew (S := (fun W => W.cell? ⟨xb, 0, none⟩ = some (.int .u8 p.op) ∧ W.cell? ⟨xb, 1, none⟩ = some (.string p.nm) ∧ W.cell? ⟨xb, 2, none⟩ = some (.slice an nn nc) ∧ W.cell? ⟨xb, 3, none⟩ = some (.slice aa p.k ac) ∧ Hid (Below w.heap.size w W ∧ W.heap[xb]? = some (.cells #[.int .u8 p.op, .string p.nm, .slice an nn nc, .slice aa p.k ac] 25 (0, 0))))) (by kernel_rfl) ?_ (fun hHeld => ?_)
      · exact ⟨cell_blk (blk_keep XA.out (Below.refl _ w2).drew) 0, cell_blk (blk_keep XA.out (Below.refl _ w2).drew) 1, cell_blk (blk_keep XA.out (Below.refl _ w2).drew) 2, cell_blk (blk_keep XA.out (Below.refl _ w2).drew) 3, Lib.hid ⟨(KA.out.trans ((Below.refl _ w2).drew.mono KA.out.size)), (blk_keep XA.out (Below.refl _ w2).drew)⟩⟩
      refine wpAnyH_take (i := 0) (oi := _) (v := ?_) rfl (by kernel_rfl) (by kernel_rfl) (by kernel_rfl) (fun _ _ _ h => h) (Or.inl ⟨by kernel_rfl, ?_⟩) (by assumption) ?_
      rotate_left 1
      focus (intro wq hSw; (try dsimp only at hSw); obtain ⟨s0, s1, s2, s3, s4⟩ := hSw; go_simp; (try with_reducible rfl); done)
      try simp only [List.getElem_toArray, List.getElem_cons_zero, List.getElem_cons_succ, Act.put, List.setIfInBounds_toArray, List.set_cons_zero, List.set_cons_succ]
      refine wpAnyH_take (i := 2) (oi := _) (v := ?_) rfl (by kernel_rfl) (by kernel_rfl) (by kernel_rfl) (fun _ _ _ h => h) (Or.inl ⟨by kernel_rfl, ?_⟩) (by assumption) ?_
      rotate_left 1
      focus (intro wq hSw; (try dsimp only at hSw); obtain ⟨s0, s1, s2, s3, s4⟩ := hSw; go_simp; (try with_reducible rfl); done)
      try simp only [List.getElem_toArray, List.getElem_cons_zero, List.getElem_cons_succ, Act.put, List.setIfInBounds_toArray, List.set_cons_zero, List.set_cons_succ]
      obtain ⟨wd, hwd⟩ : ∃ z, w2.drew = z := ⟨_, rfl⟩
      have HS0 : Hid (w2.heap.size = wd.heap.size) := Lib.hid (by rw [← hwd]; rfl)
      have HXW : Hid (xb < wd.heap.size) := Lib.hid (by rw [← hwd]; exact (Array.getElem?_eq_some_iff.1 XA.out).1)
      rw [hwd] at hHeld ⊢
      clear hwd
      refine wpAnyH_ready (rs := [1, 4, 5]) (by kernel_rfl) (by simp) ?_
      refine AllReadyH.cons (o := _) rfl (fun K hK => ?_) (AllReadyH.cons (o := _) rfl (fun K hK => ?_) (AllReadyH.cons (o := _) rfl (fun K hK => ?_) AllReadyH.nil))
      · rw [if_pos (by kernel_rfl)]
        go_simp
        go_at_call 23
        (with_reducible refine (C23.out _ hHeld.2.2.2.2.out.1).mono ?_)
        rintro e v1 ⟨p3, a3, n3, c3, aa3, ac3, rfl, O1, q1⟩
        first | refine hK.out _ _ ?_ (fun hHeld => ?_) | (go_wp2_with fail; refine hK.out _ _ ?_ (fun hHeld => ?_))
        · exact ⟨cell_blk (blk_keep hHeld.2.2.2.2.out.2 q1) 0, cell_blk (blk_keep hHeld.2.2.2.2.out.2 q1) 1, cell_blk (blk_keep hHeld.2.2.2.2.out.2 q1) 2, cell_blk (blk_keep hHeld.2.2.2.2.out.2 q1) 3, Lib.hid ⟨(hHeld.2.2.2.2.out.1.trans (q1.mono hHeld.2.2.2.2.out.1.size)), (blk_keep hHeld.2.2.2.2.out.2 q1)⟩⟩
        clear hK K
        try simp only [List.getElem_toArray, List.getElem_cons_zero, List.getElem_cons_succ, Act.put, List.setIfInBounds_toArray, List.set_cons_zero, List.set_cons_succ]
        obtain ⟨L1, hL1⟩ : ∃ z, wd.heap.size = z := ⟨_, rfl⟩
        obtain ⟨H1, hH1⟩ : ∃ z, v1.heap.size = z := ⟨_, rfl⟩
        have HN1 := Lib.hid (And.intro q1.size (And.intro hL1 hH1))
        rw [hL1, hH1] at O1
        clear q1 hL1 hH1
        refine wpAnyH_ready (rs := [3, 4, 5]) (by kernel_rfl) (by simp) ?_
        refine AllReadyH.cons (o := _) rfl (fun K hK => ?_) (AllReadyH.cons (o := _) rfl (fun K hK => ?_) (AllReadyH.cons (o := _) rfl (fun K hK => ?_) AllReadyH.nil))
        · rw [if_pos (by kernel_rfl)]
          go_simp
          go_at_call 23
          (with_reducible refine (C23.out _ hHeld.2.2.2.2.out.1).mono ?_)
          rintro e v2 ⟨p4, a4, n4, c4, aa4, ac4, rfl, O2, q2⟩
          first | refine hK.out _ _ ?_ (fun hHeld => ?_) | (go_wp2_with fail; refine hK.out _ _ ?_ (fun hHeld => ?_))
          · exact ⟨cell_blk (blk_keep hHeld.2.2.2.2.out.2 q2) 0, cell_blk (blk_keep hHeld.2.2.2.2.out.2 q2) 1, cell_blk (blk_keep hHeld.2.2.2.2.out.2 q2) 2, cell_blk (blk_keep hHeld.2.2.2.2.out.2 q2) 3, Lib.hid ⟨(hHeld.2.2.2.2.out.1.trans (q2.mono hHeld.2.2.2.2.out.1.size)), (blk_keep hHeld.2.2.2.2.out.2 q2)⟩⟩
          clear hK K
          try simp only [List.getElem_toArray, List.getElem_cons_zero, List.getElem_cons_succ, Act.put, List.setIfInBounds_toArray, List.set_cons_zero, List.set_cons_succ]
          obtain ⟨L2, hL2⟩ : ∃ z, v1.heap.size = z := ⟨_, rfl⟩
          obtain ⟨H2, hH2⟩ : ∃ z, v2.heap.size = z := ⟨_, rfl⟩
          have HN2 := Lib.hid (And.intro q2.size (And.intro hL2 hH2))
          rw [hL2, hH2] at O2
          have O1 := Lib.hid (O1.out.below (by have := HS0.out; have := HN1.out; omega) q2)
          clear q2 hL2 hH2
          refine wpAnyH_ready (rs := [4, 5]) (by kernel_rfl) (by simp) ?_
          refine AllReadyH.cons (o := _) rfl (fun K hK => ?_) (AllReadyH.cons (o := _) rfl (fun K hK => ?_) AllReadyH.nil)
          · rw [if_pos (by kernel_rfl)]
            go_simp
            have q3 : Below v2.heap.size v2 (v2.alloc (.cells #[.int .u8 0, .string ⟨#[]⟩, .slice none 0 0, .slice none 0 0] 25)) := (Below.refl _ v2).alloc (Nat.le_refl _) _
            have B7 : Hid ((v2.alloc (.cells #[.int .u8 0, .string ⟨#[]⟩, .slice none 0 0, .slice none 0 0] 25)).heap[v2.heap.size]? = some (.cells #[.int .u8 0, .string ⟨#[]⟩, .slice none 0 0, .slice none 0 0] 25 (0, 0))) := Lib.hid (al_new _ _)
            have HN3a : (v2.alloc (.cells #[.int .u8 0, .string ⟨#[]⟩, .slice none 0 0, .slice none 0 0] 25)).heap.size = v2.heap.size + 1 := by simp
            refine hK.out _ _ ?_ (fun hHeld => ?_)
            · exact ⟨cell_blk (blk_keep hHeld.2.2.2.2.out.2 q3) 0, cell_blk (blk_keep hHeld.2.2.2.2.out.2 q3) 1, cell_blk (blk_keep hHeld.2.2.2.2.out.2 q3) 2, cell_blk (blk_keep hHeld.2.2.2.2.out.2 q3) 3, Lib.hid ⟨(hHeld.2.2.2.2.out.1.trans (q3.mono hHeld.2.2.2.2.out.1.size)), (blk_keep hHeld.2.2.2.2.out.2 q3)⟩⟩
            clear hK K
            try simp only [List.getElem_toArray, List.getElem_cons_zero, List.getElem_cons_succ, Act.put, List.setIfInBounds_toArray, List.set_cons_zero, List.set_cons_succ]
            obtain ⟨b7, hb7⟩ : ∃ z, v2.heap.size = z := ⟨_, rfl⟩
            obtain ⟨v3, hwk⟩ : ∃ z, (v2.alloc (.cells #[.int .u8 0, .string ⟨#[]⟩, .slice none 0 0, .slice none 0 0] 25)) = z := ⟨_, rfl⟩
            rw [hwk] at hHeld B7 q3 HN3a ⊢
            have HN3 := Lib.hid (And.intro HN3a hb7)
            rw [hb7] at B7 ⊢
            have O1 := Lib.hid (O1.out.below (by have := HS0.out; have := HN1.out; have := HN2.out; omega) q3)
            have O2 := Lib.hid (O2.out.below (by have := HS0.out; have := HN1.out; have := HN2.out; omega) q3)
            clear q3 HN3a hb7 hwk
            refine wpAnyH_ready (rs := [5]) (by kernel_rfl) (by simp) ?_
            refine AllReadyH.cons (o := _) rfl (fun K hK => ?_) AllReadyH.nil
            · rw [if_pos (by kernel_rfl)]
              go_simp
              have q4 : Below v3.heap.size v3 (v3.alloc (.cells #[.int .u8 0, .string ⟨#[]⟩, .slice none 0 0, .slice none 0 0] 25)) := (Below.refl _ v3).alloc (Nat.le_refl _) _
              have B8 : Hid ((v3.alloc (.cells #[.int .u8 0, .string ⟨#[]⟩, .slice none 0 0, .slice none 0 0] 25)).heap[v3.heap.size]? = some (.cells #[.int .u8 0, .string ⟨#[]⟩, .slice none 0 0, .slice none 0 0] 25 (0, 0))) := Lib.hid (al_new _ _)
              have HN4a : (v3.alloc (.cells #[.int .u8 0, .string ⟨#[]⟩, .slice none 0 0, .slice none 0 0] 25)).heap.size = v3.heap.size + 1 := by simp
              refine hK.out _ _ ?_ (fun hHeld => ?_)
              · exact ⟨cell_blk (blk_keep hHeld.2.2.2.2.out.2 q4) 0, cell_blk (blk_keep hHeld.2.2.2.2.out.2 q4) 1, cell_blk (blk_keep hHeld.2.2.2.2.out.2 q4) 2, cell_blk (blk_keep hHeld.2.2.2.2.out.2 q4) 3, Lib.hid ⟨(hHeld.2.2.2.2.out.1.trans (q4.mono hHeld.2.2.2.2.out.1.size)), (blk_keep hHeld.2.2.2.2.out.2 q4)⟩⟩
              clear hK K
              try simp only [List.getElem_toArray, List.getElem_cons_zero, List.getElem_cons_succ, Act.put, List.setIfInBounds_toArray, List.set_cons_zero, List.set_cons_succ]
              obtain ⟨b8, hb8⟩ : ∃ z, v3.heap.size = z := ⟨_, rfl⟩
              obtain ⟨v4, hwk⟩ : ∃ z, (v3.alloc (.cells #[.int .u8 0, .string ⟨#[]⟩, .slice none 0 0, .slice none 0 0] 25)) = z := ⟨_, rfl⟩
              rw [hwk] at hHeld B8 q4 HN4a ⊢
              have HN4 := Lib.hid (And.intro HN4a hb8)
              rw [hb8] at B8 ⊢
              have B7 := Lib.hid (blk_keep B7.out q4)
              have O1 := Lib.hid (O1.out.below (by have := HS0.out; have := HN1.out; have := HN2.out; have := HN3.out; omega) q4)
              have O2 := Lib.hid (O2.out.below (by have := HS0.out; have := HN1.out; have := HN2.out; have := HN3.out; omega) q4)
              clear q4 HN4a hb8 hwk
              refine wpAnyH_ready (rs := [6]) (by kernel_rfl) (by simp) ?_
              refine AllReadyH.cons (o := _) rfl (fun K hK => ?_) AllReadyH.nil
              · have HTV : Hid (Tv w v4 xb b7 b8 n p an aa nn nc ac F L1 H1 L2 H2 (.int .u8 p3.op) (.string p3.nm) (.slice a3 n3 c3) (.slice aa3 p3.k ac3) (.int .u8 p4.op) (.string p4.nm) (.slice a4 n4 c4) (.slice aa4 p4.k ac4)) := Lib.hid ⟨hHeld.2.2.2.2.out.1, hHeld.2.2.2.2.out.2, B7.out, O1.out, B8.out, O2.out, by have := HXL.out; have := HXW.out; have := HS0.out; have := HN1.out; have := HN2.out; have := HN3.out; have := HN4.out; omega⟩
                have HTW := Lib.hid HTV.out.put
                clear HTV
                have b78 : ¬ b7 = b8 := by have := HS0.out; have := HN1.out; have := HN2.out; have := HN3.out; have := HN4.out; omega
                have b87 : ¬ b8 = b7 := by have := HS0.out; have := HN1.out; have := HN2.out; have := HN3.out; have := HN4.out; omega
                rw [if_pos (by kernel_rfl)]
                have g0 := cell_blk B7.out 0
                have f0 := blk_free B7.out 0
                have g1 := cell_blk B7.out 1
                have f1 := blk_free B7.out 1
                have g2 := cell_blk B7.out 2
                have f2 := blk_free B7.out 2
                have g3 := cell_blk B7.out 3
                have f3 := blk_free B7.out 3
                go_simp
                refine hK.out _ _ ?_ (fun hHeld => ?_)
                · exact ⟨cell_blk ((put44_off v4 b7 (.int .u8 p3.op) (.string p3.nm) (.slice a3 n3 c3) (.slice aa3 p3.k ac3) (by have := (Array.getElem?_eq_some_iff.1 hHeld.2.2.2.2.out.2).1; have := HXW.out; have := HS0.out; have := HN1.out; have := HN2.out; have := HN3.out; have := HN4.out; omega)).trans hHeld.2.2.2.2.out.2) 0, cell_blk ((put44_off v4 b7 (.int .u8 p3.op) (.string p3.nm) (.slice a3 n3 c3) (.slice aa3 p3.k ac3) (by have := (Array.getElem?_eq_some_iff.1 hHeld.2.2.2.2.out.2).1; have := HXW.out; have := HS0.out; have := HN1.out; have := HN2.out; have := HN3.out; have := HN4.out; omega)).trans hHeld.2.2.2.2.out.2) 1, cell_blk ((put44_off v4 b7 (.int .u8 p3.op) (.string p3.nm) (.slice a3 n3 c3) (.slice aa3 p3.k ac3) (by have := (Array.getElem?_eq_some_iff.1 hHeld.2.2.2.2.out.2).1; have := HXW.out; have := HS0.out; have := HN1.out; have := HN2.out; have := HN3.out; have := HN4.out; omega)).trans hHeld.2.2.2.2.out.2) 2, cell_blk ((put44_off v4 b7 (.int .u8 p3.op) (.string p3.nm) (.slice a3 n3 c3) (.slice aa3 p3.k ac3) (by have := (Array.getElem?_eq_some_iff.1 hHeld.2.2.2.2.out.2).1; have := HXW.out; have := HS0.out; have := HN1.out; have := HN2.out; have := HN3.out; have := HN4.out; omega)).trans hHeld.2.2.2.2.out.2) 3, Lib.hid ⟨(put44_below (W := v4) hHeld.2.2.2.2.out.1 (by have := HXL.out; have := HXW.out; have := HS0.out; have := HN1.out; have := HN2.out; have := HN3.out; have := HN4.out; omega) (.int .u8 p3.op) (.string p3.nm) (.slice a3 n3 c3) (.slice aa3 p3.k ac3)), ((put44_off v4 b7 (.int .u8 p3.op) (.string p3.nm) (.slice a3 n3 c3) (.slice aa3 p3.k ac3) (by have := (Array.getElem?_eq_some_iff.1 hHeld.2.2.2.2.out.2).1; have := HXW.out; have := HS0.out; have := HN1.out; have := HN2.out; have := HN3.out; have := HN4.out; omega)).trans hHeld.2.2.2.2.out.2)⟩⟩
                clear hK K
                try simp only [List.getElem_toArray, List.getElem_cons_zero, List.getElem_cons_succ, Act.put, List.setIfInBounds_toArray, List.set_cons_zero, List.set_cons_succ]
                obtain ⟨v5, hwk⟩ : ∃ z, (put44 v4 b7 (.int .u8 p3.op) (.string p3.nm) (.slice a3 n3 c3) (.slice aa3 p3.k ac3)) = z := ⟨_, rfl⟩
                rw [show (((((v4).setCell ⟨b7, 0, none⟩ (.int .u8 p3.op)).setCell ⟨b7, 1, none⟩ (.string p3.nm)).setCell ⟨b7, 2, none⟩ (.slice a3 n3 c3)).setCell ⟨b7, 3, none⟩ (.slice aa3 p3.k ac3)) = v5 from hwk] at hHeld ⊢
                rw [hwk] at HTW
                have B8 := Lib.hid ((show v5.heap[b8]? = v4.heap[b8]? by rw [← hwk]; exact put44_off _ _ _ _ _ _ b87).trans B8.out)
                have HN5 : Hid (v5.heap.size = v4.heap.size) := Lib.hid (by rw [← hwk]; exact put44_size _ _ _ _ _ _)
                clear hwk g0 g1 g2 g3 f0 f1 f2 f3
                refine wpAnyH_ready (rs := [7]) (by kernel_rfl) (by simp) ?_
                refine AllReadyH.cons (o := _) rfl (fun K hK => ?_) AllReadyH.nil
                · rw [if_pos (by kernel_rfl)]
                  have g0 := cell_blk B8.out 0
                  have f0 := blk_free B8.out 0
                  have g1 := cell_blk B8.out 1
                  have f1 := blk_free B8.out 1
                  have g2 := cell_blk B8.out 2
                  have f2 := blk_free B8.out 2
                  have g3 := cell_blk B8.out 3
                  have f3 := blk_free B8.out 3
                  go_simp
                  refine hK.out _ _ ?_ (fun hHeld => ?_)
                  · exact ⟨cell_blk ((put44_off v5 b8 (.int .u8 p4.op) (.string p4.nm) (.slice a4 n4 c4) (.slice aa4 p4.k ac4) (by have := (Array.getElem?_eq_some_iff.1 hHeld.2.2.2.2.out.2).1; have := HXW.out; have := HS0.out; have := HN1.out; have := HN2.out; have := HN3.out; have := HN4.out; have := HN5.out; omega)).trans hHeld.2.2.2.2.out.2) 0, cell_blk ((put44_off v5 b8 (.int .u8 p4.op) (.string p4.nm) (.slice a4 n4 c4) (.slice aa4 p4.k ac4) (by have := (Array.getElem?_eq_some_iff.1 hHeld.2.2.2.2.out.2).1; have := HXW.out; have := HS0.out; have := HN1.out; have := HN2.out; have := HN3.out; have := HN4.out; have := HN5.out; omega)).trans hHeld.2.2.2.2.out.2) 1, cell_blk ((put44_off v5 b8 (.int .u8 p4.op) (.string p4.nm) (.slice a4 n4 c4) (.slice aa4 p4.k ac4) (by have := (Array.getElem?_eq_some_iff.1 hHeld.2.2.2.2.out.2).1; have := HXW.out; have := HS0.out; have := HN1.out; have := HN2.out; have := HN3.out; have := HN4.out; have := HN5.out; omega)).trans hHeld.2.2.2.2.out.2) 2, cell_blk ((put44_off v5 b8 (.int .u8 p4.op) (.string p4.nm) (.slice a4 n4 c4) (.slice aa4 p4.k ac4) (by have := (Array.getElem?_eq_some_iff.1 hHeld.2.2.2.2.out.2).1; have := HXW.out; have := HS0.out; have := HN1.out; have := HN2.out; have := HN3.out; have := HN4.out; have := HN5.out; omega)).trans hHeld.2.2.2.2.out.2) 3, Lib.hid ⟨(put44_below (W := v5) hHeld.2.2.2.2.out.1 (by have := HXL.out; have := HXW.out; have := HS0.out; have := HN1.out; have := HN2.out; have := HN3.out; have := HN4.out; have := HN5.out; omega) (.int .u8 p4.op) (.string p4.nm) (.slice a4 n4 c4) (.slice aa4 p4.k ac4)), ((put44_off v5 b8 (.int .u8 p4.op) (.string p4.nm) (.slice a4 n4 c4) (.slice aa4 p4.k ac4) (by have := (Array.getElem?_eq_some_iff.1 hHeld.2.2.2.2.out.2).1; have := HXW.out; have := HS0.out; have := HN1.out; have := HN2.out; have := HN3.out; have := HN4.out; have := HN5.out; omega)).trans hHeld.2.2.2.2.out.2)⟩⟩
                  clear hK K
                  try simp only [List.getElem_toArray, List.getElem_cons_zero, List.getElem_cons_succ, Act.put, List.setIfInBounds_toArray, List.set_cons_zero, List.set_cons_succ]
                  obtain ⟨v6, hwk⟩ : ∃ z, (put44 v5 b8 (.int .u8 p4.op) (.string p4.nm) (.slice a4 n4 c4) (.slice aa4 p4.k ac4)) = z := ⟨_, rfl⟩
                  rw [show (((((v5).setCell ⟨b8, 0, none⟩ (.int .u8 p4.op)).setCell ⟨b8, 1, none⟩ (.string p4.nm)).setCell ⟨b8, 2, none⟩ (.slice a4 n4 c4)).setCell ⟨b8, 3, none⟩ (.slice aa4 p4.k ac4)) = v6 from hwk] at hHeld ⊢
                  rw [hwk] at HTW
                  have HN6 := HXW
                  clear hwk g0 g1 g2 g3 f0 f1 f2 f3
                  refine wpAnyH_done (by kernel_rfl) ?_ _
                  go_wp2_with fail
                  go_meet
                  case rel =>
                    exact ⟨b7, b8, rfl, rfl, Lib.hid ⟨L1, H1, L2, H2, _, _, _, _, _, _, _, _, HTW.out⟩⟩
          · rw [if_pos (by kernel_rfl)]
            go_simp
            have q7 : Below v2.heap.size v2 (v2.alloc (.cells #[.int .u8 0, .string ⟨#[]⟩, .slice none 0 0, .slice none 0 0] 25)) := (Below.refl _ v2).alloc (Nat.le_refl _) _
            have B8 : Hid ((v2.alloc (.cells #[.int .u8 0, .string ⟨#[]⟩, .slice none 0 0, .slice none 0 0] 25)).heap[v2.heap.size]? = some (.cells #[.int .u8 0, .string ⟨#[]⟩, .slice none 0 0, .slice none 0 0] 25 (0, 0))) := Lib.hid (al_new _ _)
            have HN7a : (v2.alloc (.cells #[.int .u8 0, .string ⟨#[]⟩, .slice none 0 0, .slice none 0 0] 25)).heap.size = v2.heap.size + 1 := by simp
            refine hK.out _ _ ?_ (fun hHeld => ?_)
            · exact ⟨cell_blk (blk_keep hHeld.2.2.2.2.out.2 q7) 0, cell_blk (blk_keep hHeld.2.2.2.2.out.2 q7) 1, cell_blk (blk_keep hHeld.2.2.2.2.out.2 q7) 2, cell_blk (blk_keep hHeld.2.2.2.2.out.2 q7) 3, Lib.hid ⟨(hHeld.2.2.2.2.out.1.trans (q7.mono hHeld.2.2.2.2.out.1.size)), (blk_keep hHeld.2.2.2.2.out.2 q7)⟩⟩
            clear hK K
            try simp only [List.getElem_toArray, List.getElem_cons_zero, List.getElem_cons_succ, Act.put, List.setIfInBounds_toArray, List.set_cons_zero, List.set_cons_succ]
            obtain ⟨b8, hb8⟩ : ∃ z, v2.heap.size = z := ⟨_, rfl⟩
            obtain ⟨v7, hwk⟩ : ∃ z, (v2.alloc (.cells #[.int .u8 0, .string ⟨#[]⟩, .slice none 0 0, .slice none 0 0] 25)) = z := ⟨_, rfl⟩
            rw [hwk] at hHeld B8 q7 HN7a ⊢
            have HN7 := Lib.hid (And.intro HN7a hb8)
            rw [hb8] at B8 ⊢
            have O1 := Lib.hid (O1.out.below (by have := HS0.out; have := HN1.out; have := HN2.out; omega) q7)
            have O2 := Lib.hid (O2.out.below (by have := HS0.out; have := HN1.out; have := HN2.out; omega) q7)
            clear q7 HN7a hb8 hwk
            refine wpAnyH_ready (rs := [4]) (by kernel_rfl) (by simp) ?_
            refine AllReadyH.cons (o := _) rfl (fun K hK => ?_) AllReadyH.nil
            · rw [if_pos (by kernel_rfl)]
              go_simp
              have q8 : Below v7.heap.size v7 (v7.alloc (.cells #[.int .u8 0, .string ⟨#[]⟩, .slice none 0 0, .slice none 0 0] 25)) := (Below.refl _ v7).alloc (Nat.le_refl _) _
              have B7 : Hid ((v7.alloc (.cells #[.int .u8 0, .string ⟨#[]⟩, .slice none 0 0, .slice none 0 0] 25)).heap[v7.heap.size]? = some (.cells #[.int .u8 0, .string ⟨#[]⟩, .slice none 0 0, .slice none 0 0] 25 (0, 0))) := Lib.hid (al_new _ _)
              have HN8a : (v7.alloc (.cells #[.int .u8 0, .string ⟨#[]⟩, .slice none 0 0, .slice none 0 0] 25)).heap.size = v7.heap.size + 1 := by simp
              refine hK.out _ _ ?_ (fun hHeld => ?_)
              · exact ⟨cell_blk (blk_keep hHeld.2.2.2.2.out.2 q8) 0, cell_blk (blk_keep hHeld.2.2.2.2.out.2 q8) 1, cell_blk (blk_keep hHeld.2.2.2.2.out.2 q8) 2, cell_blk (blk_keep hHeld.2.2.2.2.out.2 q8) 3, Lib.hid ⟨(hHeld.2.2.2.2.out.1.trans (q8.mono hHeld.2.2.2.2.out.1.size)), (blk_keep hHeld.2.2.2.2.out.2 q8)⟩⟩
              clear hK K
              try simp only [List.getElem_toArray, List.getElem_cons_zero, List.getElem_cons_succ, Act.put, List.setIfInBounds_toArray, List.set_cons_zero, List.set_cons_succ]
              obtain ⟨b7, hb7⟩ : ∃ z, v7.heap.size = z := ⟨_, rfl⟩
              obtain ⟨v8, hwk⟩ : ∃ z, (v7.alloc (.cells #[.int .u8 0, .string ⟨#[]⟩, .slice none 0 0, .slice none 0 0] 25)) = z := ⟨_, rfl⟩
              rw [hwk] at hHeld B7 q8 HN8a ⊢
              have HN8 := Lib.hid (And.intro HN8a hb7)
              rw [hb7] at B7 ⊢
              have B8 := Lib.hid (blk_keep B8.out q8)
              have O1 := Lib.hid (O1.out.below (by have := HS0.out; have := HN1.out; have := HN2.out; have := HN7.out; omega) q8)
              have O2 := Lib.hid (O2.out.below (by have := HS0.out; have := HN1.out; have := HN2.out; have := HN7.out; omega) q8)
              clear q8 HN8a hb7 hwk
              refine wpAnyH_ready (rs := [6]) (by kernel_rfl) (by simp) ?_
              refine AllReadyH.cons (o := _) rfl (fun K hK => ?_) AllReadyH.nil
              · have HTV : Hid (Tv w v8 xb b7 b8 n p an aa nn nc ac F L1 H1 L2 H2 (.int .u8 p3.op) (.string p3.nm) (.slice a3 n3 c3) (.slice aa3 p3.k ac3) (.int .u8 p4.op) (.string p4.nm) (.slice a4 n4 c4) (.slice aa4 p4.k ac4)) := Lib.hid ⟨hHeld.2.2.2.2.out.1, hHeld.2.2.2.2.out.2, B7.out, O1.out, B8.out, O2.out, by have := HXL.out; have := HXW.out; have := HS0.out; have := HN1.out; have := HN2.out; have := HN7.out; have := HN8.out; omega⟩
                have HTW := Lib.hid HTV.out.put
                clear HTV
                have b78 : ¬ b7 = b8 := by have := HS0.out; have := HN1.out; have := HN2.out; have := HN7.out; have := HN8.out; omega
                have b87 : ¬ b8 = b7 := by have := HS0.out; have := HN1.out; have := HN2.out; have := HN7.out; have := HN8.out; omega
                rw [if_pos (by kernel_rfl)]
                have g0 := cell_blk B7.out 0
                have f0 := blk_free B7.out 0
                have g1 := cell_blk B7.out 1
                have f1 := blk_free B7.out 1
                have g2 := cell_blk B7.out 2
                have f2 := blk_free B7.out 2
                have g3 := cell_blk B7.out 3
                have f3 := blk_free B7.out 3
                go_simp
                refine hK.out _ _ ?_ (fun hHeld => ?_)
                · exact ⟨cell_blk ((put44_off v8 b7 (.int .u8 p3.op) (.string p3.nm) (.slice a3 n3 c3) (.slice aa3 p3.k ac3) (by have := (Array.getElem?_eq_some_iff.1 hHeld.2.2.2.2.out.2).1; have := HXW.out; have := HS0.out; have := HN1.out; have := HN2.out; have := HN7.out; have := HN8.out; omega)).trans hHeld.2.2.2.2.out.2) 0, cell_blk ((put44_off v8 b7 (.int .u8 p3.op) (.string p3.nm) (.slice a3 n3 c3) (.slice aa3 p3.k ac3) (by have := (Array.getElem?_eq_some_iff.1 hHeld.2.2.2.2.out.2).1; have := HXW.out; have := HS0.out; have := HN1.out; have := HN2.out; have := HN7.out; have := HN8.out; omega)).trans hHeld.2.2.2.2.out.2) 1, cell_blk ((put44_off v8 b7 (.int .u8 p3.op) (.string p3.nm) (.slice a3 n3 c3) (.slice aa3 p3.k ac3) (by have := (Array.getElem?_eq_some_iff.1 hHeld.2.2.2.2.out.2).1; have := HXW.out; have := HS0.out; have := HN1.out; have := HN2.out; have := HN7.out; have := HN8.out; omega)).trans hHeld.2.2.2.2.out.2) 2, cell_blk ((put44_off v8 b7 (.int .u8 p3.op) (.string p3.nm) (.slice a3 n3 c3) (.slice aa3 p3.k ac3) (by have := (Array.getElem?_eq_some_iff.1 hHeld.2.2.2.2.out.2).1; have := HXW.out; have := HS0.out; have := HN1.out; have := HN2.out; have := HN7.out; have := HN8.out; omega)).trans hHeld.2.2.2.2.out.2) 3, Lib.hid ⟨(put44_below (W := v8) hHeld.2.2.2.2.out.1 (by have := HXL.out; have := HXW.out; have := HS0.out; have := HN1.out; have := HN2.out; have := HN7.out; have := HN8.out; omega) (.int .u8 p3.op) (.string p3.nm) (.slice a3 n3 c3) (.slice aa3 p3.k ac3)), ((put44_off v8 b7 (.int .u8 p3.op) (.string p3.nm) (.slice a3 n3 c3) (.slice aa3 p3.k ac3) (by have := (Array.getElem?_eq_some_iff.1 hHeld.2.2.2.2.out.2).1; have := HXW.out; have := HS0.out; have := HN1.out; have := HN2.out; have := HN7.out; have := HN8.out; omega)).trans hHeld.2.2.2.2.out.2)⟩⟩
                clear hK K
                try simp only [List.getElem_toArray, List.getElem_cons_zero, List.getElem_cons_succ, Act.put, List.setIfInBounds_toArray, List.set_cons_zero, List.set_cons_succ]
                obtain ⟨v9, hwk⟩ : ∃ z, (put44 v8 b7 (.int .u8 p3.op) (.string p3.nm) (.slice a3 n3 c3) (.slice aa3 p3.k ac3)) = z := ⟨_, rfl⟩
                rw [show (((((v8).setCell ⟨b7, 0, none⟩ (.int .u8 p3.op)).setCell ⟨b7, 1, none⟩ (.string p3.nm)).setCell ⟨b7, 2, none⟩ (.slice a3 n3 c3)).setCell ⟨b7, 3, none⟩ (.slice aa3 p3.k ac3)) = v9 from hwk] at hHeld ⊢
                rw [hwk] at HTW
                have B8 := Lib.hid ((show v9.heap[b8]? = v8.heap[b8]? by rw [← hwk]; exact put44_off _ _ _ _ _ _ b87).trans B8.out)
                have HN9 : Hid (v9.heap.size = v8.heap.size) := Lib.hid (by rw [← hwk]; exact put44_size _ _ _ _ _ _)
                clear hwk g0 g1 g2 g3 f0 f1 f2 f3
                refine wpAnyH_ready (rs := [7]) (by kernel_rfl) (by simp) ?_
                refine AllReadyH.cons (o := _) rfl (fun K hK => ?_) AllReadyH.nil
                · rw [if_pos (by kernel_rfl)]
                  have g0 := cell_blk B8.out 0
                  have f0 := blk_free B8.out 0
                  have g1 := cell_blk B8.out 1
                  have f1 := blk_free B8.out 1
                  have g2 := cell_blk B8.out 2
                  have f2 := blk_free B8.out 2
                  have g3 := cell_blk B8.out 3
                  have f3 := blk_free B8.out 3
                  go_simp
                  refine hK.out _ _ ?_ (fun hHeld => ?_)
                  · exact ⟨cell_blk ((put44_off v9 b8 (.int .u8 p4.op) (.string p4.nm) (.slice a4 n4 c4) (.slice aa4 p4.k ac4) (by have := (Array.getElem?_eq_some_iff.1 hHeld.2.2.2.2.out.2).1; have := HXW.out; have := HS0.out; have := HN1.out; have := HN2.out; have := HN7.out; have := HN8.out; have := HN9.out; omega)).trans hHeld.2.2.2.2.out.2) 0, cell_blk ((put44_off v9 b8 (.int .u8 p4.op) (.string p4.nm) (.slice a4 n4 c4) (.slice aa4 p4.k ac4) (by have := (Array.getElem?_eq_some_iff.1 hHeld.2.2.2.2.out.2).1; have := HXW.out; have := HS0.out; have := HN1.out; have := HN2.out; have := HN7.out; have := HN8.out; have := HN9.out; omega)).trans hHeld.2.2.2.2.out.2) 1, cell_blk ((put44_off v9 b8 (.int .u8 p4.op) (.string p4.nm) (.slice a4 n4 c4) (.slice aa4 p4.k ac4) (by have := (Array.getElem?_eq_some_iff.1 hHeld.2.2.2.2.out.2).1; have := HXW.out; have := HS0.out; have := HN1.out; have := HN2.out; have := HN7.out; have := HN8.out; have := HN9.out; omega)).trans hHeld.2.2.2.2.out.2) 2, cell_blk ((put44_off v9 b8 (.int .u8 p4.op) (.string p4.nm) (.slice a4 n4 c4) (.slice aa4 p4.k ac4) (by have := (Array.getElem?_eq_some_iff.1 hHeld.2.2.2.2.out.2).1; have := HXW.out; have := HS0.out; have := HN1.out; have := HN2.out; have := HN7.out; have := HN8.out; have := HN9.out; omega)).trans hHeld.2.2.2.2.out.2) 3, Lib.hid ⟨(put44_below (W := v9) hHeld.2.2.2.2.out.1 (by have := HXL.out; have := HXW.out; have := HS0.out; have := HN1.out; have := HN2.out; have := HN7.out; have := HN8.out; have := HN9.out; omega) (.int .u8 p4.op) (.string p4.nm) (.slice a4 n4 c4) (.slice aa4 p4.k ac4)), ((put44_off v9 b8 (.int .u8 p4.op) (.string p4.nm) (.slice a4 n4 c4) (.slice aa4 p4.k ac4) (by have := (Array.getElem?_eq_some_iff.1 hHeld.2.2.2.2.out.2).1; have := HXW.out; have := HS0.out; have := HN1.out; have := HN2.out; have := HN7.out; have := HN8.out; have := HN9.out; omega)).trans hHeld.2.2.2.2.out.2)⟩⟩
                  clear hK K
                  try simp only [List.getElem_toArray, List.getElem_cons_zero, List.getElem_cons_succ, Act.put, List.setIfInBounds_toArray, List.set_cons_zero, List.set_cons_succ]
                  obtain ⟨v10, hwk⟩ : ∃ z, (put44 v9 b8 (.int .u8 p4.op) (.string p4.nm) (.slice a4 n4 c4) (.slice aa4 p4.k ac4)) = z := ⟨_, rfl⟩
                  rw [show (((((v9).setCell ⟨b8, 0, none⟩ (.int .u8 p4.op)).setCell ⟨b8, 1, none⟩ (.string p4.nm)).setCell ⟨b8, 2, none⟩ (.slice a4 n4 c4)).setCell ⟨b8, 3, none⟩ (.slice aa4 p4.k ac4)) = v10 from hwk] at hHeld ⊢
                  rw [hwk] at HTW
                  have HN10 := HXW
                  clear hwk g0 g1 g2 g3 f0 f1 f2 f3
                  refine wpAnyH_done (by kernel_rfl) ?_ _
                  go_wp2_with fail
                  go_meet
                  case rel =>
                    exact ⟨b7, b8, rfl, rfl, Lib.hid ⟨L1, H1, L2, H2, _, _, _, _, _, _, _, _, HTW.out⟩⟩
        · rw [if_pos (by kernel_rfl)]
          go_simp
          have q11 : Below v1.heap.size v1 (v1.alloc (.cells #[.int .u8 0, .string ⟨#[]⟩, .slice none 0 0, .slice none 0 0] 25)) := (Below.refl _ v1).alloc (Nat.le_refl _) _
          have B7 : Hid ((v1.alloc (.cells #[.int .u8 0, .string ⟨#[]⟩, .slice none 0 0, .slice none 0 0] 25)).heap[v1.heap.size]? = some (.cells #[.int .u8 0, .string ⟨#[]⟩, .slice none 0 0, .slice none 0 0] 25 (0, 0))) := Lib.hid (al_new _ _)
          have HN11a : (v1.alloc (.cells #[.int .u8 0, .string ⟨#[]⟩, .slice none 0 0, .slice none 0 0] 25)).heap.size = v1.heap.size + 1 := by simp
          refine hK.out _ _ ?_ (fun hHeld => ?_)
          · exact ⟨cell_blk (blk_keep hHeld.2.2.2.2.out.2 q11) 0, cell_blk (blk_keep hHeld.2.2.2.2.out.2 q11) 1, cell_blk (blk_keep hHeld.2.2.2.2.out.2 q11) 2, cell_blk (blk_keep hHeld.2.2.2.2.out.2 q11) 3, Lib.hid ⟨(hHeld.2.2.2.2.out.1.trans (q11.mono hHeld.2.2.2.2.out.1.size)), (blk_keep hHeld.2.2.2.2.out.2 q11)⟩⟩
          clear hK K
          try simp only [List.getElem_toArray, List.getElem_cons_zero, List.getElem_cons_succ, Act.put, List.setIfInBounds_toArray, List.set_cons_zero, List.set_cons_succ]
          obtain ⟨b7, hb7⟩ : ∃ z, v1.heap.size = z := ⟨_, rfl⟩
          obtain ⟨v11, hwk⟩ : ∃ z, (v1.alloc (.cells #[.int .u8 0, .string ⟨#[]⟩, .slice none 0 0, .slice none 0 0] 25)) = z := ⟨_, rfl⟩
          rw [hwk] at hHeld B7 q11 HN11a ⊢
          have HN11 := Lib.hid (And.intro HN11a hb7)
          rw [hb7] at B7 ⊢
          have O1 := Lib.hid (O1.out.below (by have := HS0.out; have := HN1.out; omega) q11)
          clear q11 HN11a hb7 hwk
          refine wpAnyH_ready (rs := [3, 5]) (by kernel_rfl) (by simp) ?_
          refine AllReadyH.cons (o := _) rfl (fun K hK => ?_) (AllReadyH.cons (o := _) rfl (fun K hK => ?_) AllReadyH.nil)
          · rw [if_pos (by kernel_rfl)]
            go_simp
            go_at_call 23
            (with_reducible refine (C23.out _ hHeld.2.2.2.2.out.1).mono ?_)
            rintro e v12 ⟨p4, a4, n4, c4, aa4, ac4, rfl, O2, q12⟩
            first | refine hK.out _ _ ?_ (fun hHeld => ?_) | (go_wp2_with fail; refine hK.out _ _ ?_ (fun hHeld => ?_))
            · exact ⟨cell_blk (blk_keep hHeld.2.2.2.2.out.2 q12) 0, cell_blk (blk_keep hHeld.2.2.2.2.out.2 q12) 1, cell_blk (blk_keep hHeld.2.2.2.2.out.2 q12) 2, cell_blk (blk_keep hHeld.2.2.2.2.out.2 q12) 3, Lib.hid ⟨(hHeld.2.2.2.2.out.1.trans (q12.mono hHeld.2.2.2.2.out.1.size)), (blk_keep hHeld.2.2.2.2.out.2 q12)⟩⟩
            clear hK K
            try simp only [List.getElem_toArray, List.getElem_cons_zero, List.getElem_cons_succ, Act.put, List.setIfInBounds_toArray, List.set_cons_zero, List.set_cons_succ]
            obtain ⟨L2, hL2⟩ : ∃ z, v11.heap.size = z := ⟨_, rfl⟩
            obtain ⟨H2, hH2⟩ : ∃ z, v12.heap.size = z := ⟨_, rfl⟩
            have HN12 := Lib.hid (And.intro q12.size (And.intro hL2 hH2))
            rw [hL2, hH2] at O2
            have B7 := Lib.hid (blk_keep B7.out q12)
            have O1 := Lib.hid (O1.out.below (by have := HS0.out; have := HN1.out; have := HN11.out; omega) q12)
            clear q12 hL2 hH2
            refine wpAnyH_ready (rs := [5]) (by kernel_rfl) (by simp) ?_
            refine AllReadyH.cons (o := _) rfl (fun K hK => ?_) AllReadyH.nil
            · rw [if_pos (by kernel_rfl)]
              go_simp
              have q13 : Below v12.heap.size v12 (v12.alloc (.cells #[.int .u8 0, .string ⟨#[]⟩, .slice none 0 0, .slice none 0 0] 25)) := (Below.refl _ v12).alloc (Nat.le_refl _) _
              have B8 : Hid ((v12.alloc (.cells #[.int .u8 0, .string ⟨#[]⟩, .slice none 0 0, .slice none 0 0] 25)).heap[v12.heap.size]? = some (.cells #[.int .u8 0, .string ⟨#[]⟩, .slice none 0 0, .slice none 0 0] 25 (0, 0))) := Lib.hid (al_new _ _)
              have HN13a : (v12.alloc (.cells #[.int .u8 0, .string ⟨#[]⟩, .slice none 0 0, .slice none 0 0] 25)).heap.size = v12.heap.size + 1 := by simp
              refine hK.out _ _ ?_ (fun hHeld => ?_)
              · exact ⟨cell_blk (blk_keep hHeld.2.2.2.2.out.2 q13) 0, cell_blk (blk_keep hHeld.2.2.2.2.out.2 q13) 1, cell_blk (blk_keep hHeld.2.2.2.2.out.2 q13) 2, cell_blk (blk_keep hHeld.2.2.2.2.out.2 q13) 3, Lib.hid ⟨(hHeld.2.2.2.2.out.1.trans (q13.mono hHeld.2.2.2.2.out.1.size)), (blk_keep hHeld.2.2.2.2.out.2 q13)⟩⟩
              clear hK K
              try simp only [List.getElem_toArray, List.getElem_cons_zero, List.getElem_cons_succ, Act.put, List.setIfInBounds_toArray, List.set_cons_zero, List.set_cons_succ]
              obtain ⟨b8, hb8⟩ : ∃ z, v12.heap.size = z := ⟨_, rfl⟩
              obtain ⟨v13, hwk⟩ : ∃ z, (v12.alloc (.cells #[.int .u8 0, .string ⟨#[]⟩, .slice none 0 0, .slice none 0 0] 25)) = z := ⟨_, rfl⟩
              rw [hwk] at hHeld B8 q13 HN13a ⊢
              have HN13 := Lib.hid (And.intro HN13a hb8)
              rw [hb8] at B8 ⊢
              have B7 := Lib.hid (blk_keep B7.out q13)
              have O1 := Lib.hid (O1.out.below (by have := HS0.out; have := HN1.out; have := HN11.out; have := HN12.out; omega) q13)
              have O2 := Lib.hid (O2.out.below (by have := HS0.out; have := HN1.out; have := HN11.out; have := HN12.out; omega) q13)
              clear q13 HN13a hb8 hwk
              refine wpAnyH_ready (rs := [6]) (by kernel_rfl) (by simp) ?_
              refine AllReadyH.cons (o := _) rfl (fun K hK => ?_) AllReadyH.nil
              · have HTV : Hid (Tv w v13 xb b7 b8 n p an aa nn nc ac F L1 H1 L2 H2 (.int .u8 p3.op) (.string p3.nm) (.slice a3 n3 c3) (.slice aa3 p3.k ac3) (.int .u8 p4.op) (.string p4.nm) (.slice a4 n4 c4) (.slice aa4 p4.k ac4)) := Lib.hid ⟨hHeld.2.2.2.2.out.1, hHeld.2.2.2.2.out.2, B7.out, O1.out, B8.out, O2.out, by have := HXL.out; have := HXW.out; have := HS0.out; have := HN1.out; have := HN11.out; have := HN12.out; have := HN13.out; omega⟩
                have HTW := Lib.hid HTV.out.put
                clear HTV
                have b78 : ¬ b7 = b8 := by have := HS0.out; have := HN1.out; have := HN11.out; have := HN12.out; have := HN13.out; omega
                have b87 : ¬ b8 = b7 := by have := HS0.out; have := HN1.out; have := HN11.out; have := HN12.out; have := HN13.out; omega
                rw [if_pos (by kernel_rfl)]
                have g0 := cell_blk B7.out 0
                have f0 := blk_free B7.out 0
                have g1 := cell_blk B7.out 1
                have f1 := blk_free B7.out 1
                have g2 := cell_blk B7.out 2
                have f2 := blk_free B7.out 2
                have g3 := cell_blk B7.out 3
                have f3 := blk_free B7.out 3
                go_simp
                refine hK.out _ _ ?_ (fun hHeld => ?_)
                · exact ⟨cell_blk ((put44_off v13 b7 (.int .u8 p3.op) (.string p3.nm) (.slice a3 n3 c3) (.slice aa3 p3.k ac3) (by have := (Array.getElem?_eq_some_iff.1 hHeld.2.2.2.2.out.2).1; have := HXW.out; have := HS0.out; have := HN1.out; have := HN11.out; have := HN12.out; have := HN13.out; omega)).trans hHeld.2.2.2.2.out.2) 0, cell_blk ((put44_off v13 b7 (.int .u8 p3.op) (.string p3.nm) (.slice a3 n3 c3) (.slice aa3 p3.k ac3) (by have := (Array.getElem?_eq_some_iff.1 hHeld.2.2.2.2.out.2).1; have := HXW.out; have := HS0.out; have := HN1.out; have := HN11.out; have := HN12.out; have := HN13.out; omega)).trans hHeld.2.2.2.2.out.2) 1, cell_blk ((put44_off v13 b7 (.int .u8 p3.op) (.string p3.nm) (.slice a3 n3 c3) (.slice aa3 p3.k ac3) (by have := (Array.getElem?_eq_some_iff.1 hHeld.2.2.2.2.out.2).1; have := HXW.out; have := HS0.out; have := HN1.out; have := HN11.out; have := HN12.out; have := HN13.out; omega)).trans hHeld.2.2.2.2.out.2) 2, cell_blk ((put44_off v13 b7 (.int .u8 p3.op) (.string p3.nm) (.slice a3 n3 c3) (.slice aa3 p3.k ac3) (by have := (Array.getElem?_eq_some_iff.1 hHeld.2.2.2.2.out.2).1; have := HXW.out; have := HS0.out; have := HN1.out; have := HN11.out; have := HN12.out; have := HN13.out; omega)).trans hHeld.2.2.2.2.out.2) 3, Lib.hid ⟨(put44_below (W := v13) hHeld.2.2.2.2.out.1 (by have := HXL.out; have := HXW.out; have := HS0.out; have := HN1.out; have := HN11.out; have := HN12.out; have := HN13.out; omega) (.int .u8 p3.op) (.string p3.nm) (.slice a3 n3 c3) (.slice aa3 p3.k ac3)), ((put44_off v13 b7 (.int .u8 p3.op) (.string p3.nm) (.slice a3 n3 c3) (.slice aa3 p3.k ac3) (by have := (Array.getElem?_eq_some_iff.1 hHeld.2.2.2.2.out.2).1; have := HXW.out; have := HS0.out; have := HN1.out; have := HN11.out; have := HN12.out; have := HN13.out; omega)).trans hHeld.2.2.2.2.out.2)⟩⟩
                clear hK K
                try simp only [List.getElem_toArray, List.getElem_cons_zero, List.getElem_cons_succ, Act.put, List.setIfInBounds_toArray, List.set_cons_zero, List.set_cons_succ]
                obtain ⟨v14, hwk⟩ : ∃ z, (put44 v13 b7 (.int .u8 p3.op) (.string p3.nm) (.slice a3 n3 c3) (.slice aa3 p3.k ac3)) = z := ⟨_, rfl⟩
                rw [show (((((v13).setCell ⟨b7, 0, none⟩ (.int .u8 p3.op)).setCell ⟨b7, 1, none⟩ (.string p3.nm)).setCell ⟨b7, 2, none⟩ (.slice a3 n3 c3)).setCell ⟨b7, 3, none⟩ (.slice aa3 p3.k ac3)) = v14 from hwk] at hHeld ⊢
                rw [hwk] at HTW
                have B8 := Lib.hid ((show v14.heap[b8]? = v13.heap[b8]? by rw [← hwk]; exact put44_off _ _ _ _ _ _ b87).trans B8.out)
                have HN14 : Hid (v14.heap.size = v13.heap.size) := Lib.hid (by rw [← hwk]; exact put44_size _ _ _ _ _ _)
                clear hwk g0 g1 g2 g3 f0 f1 f2 f3
                refine wpAnyH_ready (rs := [7]) (by kernel_rfl) (by simp) ?_
                refine AllReadyH.cons (o := _) rfl (fun K hK => ?_) AllReadyH.nil
                · rw [if_pos (by kernel_rfl)]
                  have g0 := cell_blk B8.out 0
                  have f0 := blk_free B8.out 0
                  have g1 := cell_blk B8.out 1
                  have f1 := blk_free B8.out 1
                  have g2 := cell_blk B8.out 2
                  have f2 := blk_free B8.out 2
                  have g3 := cell_blk B8.out 3
                  have f3 := blk_free B8.out 3
                  go_simp
                  refine hK.out _ _ ?_ (fun hHeld => ?_)
                  · exact ⟨cell_blk ((put44_off v14 b8 (.int .u8 p4.op) (.string p4.nm) (.slice a4 n4 c4) (.slice aa4 p4.k ac4) (by have := (Array.getElem?_eq_some_iff.1 hHeld.2.2.2.2.out.2).1; have := HXW.out; have := HS0.out; have := HN1.out; have := HN11.out; have := HN12.out; have := HN13.out; have := HN14.out; omega)).trans hHeld.2.2.2.2.out.2) 0, cell_blk ((put44_off v14 b8 (.int .u8 p4.op) (.string p4.nm) (.slice a4 n4 c4) (.slice aa4 p4.k ac4) (by have := (Array.getElem?_eq_some_iff.1 hHeld.2.2.2.2.out.2).1; have := HXW.out; have := HS0.out; have := HN1.out; have := HN11.out; have := HN12.out; have := HN13.out; have := HN14.out; omega)).trans hHeld.2.2.2.2.out.2) 1, cell_blk ((put44_off v14 b8 (.int .u8 p4.op) (.string p4.nm) (.slice a4 n4 c4) (.slice aa4 p4.k ac4) (by have := (Array.getElem?_eq_some_iff.1 hHeld.2.2.2.2.out.2).1; have := HXW.out; have := HS0.out; have := HN1.out; have := HN11.out; have := HN12.out; have := HN13.out; have := HN14.out; omega)).trans hHeld.2.2.2.2.out.2) 2, cell_blk ((put44_off v14 b8 (.int .u8 p4.op) (.string p4.nm) (.slice a4 n4 c4) (.slice aa4 p4.k ac4) (by have := (Array.getElem?_eq_some_iff.1 hHeld.2.2.2.2.out.2).1; have := HXW.out; have := HS0.out; have := HN1.out; have := HN11.out; have := HN12.out; have := HN13.out; have := HN14.out; omega)).trans hHeld.2.2.2.2.out.2) 3, Lib.hid ⟨(put44_below (W := v14) hHeld.2.2.2.2.out.1 (by have := HXL.out; have := HXW.out; have := HS0.out; have := HN1.out; have := HN11.out; have := HN12.out; have := HN13.out; have := HN14.out; omega) (.int .u8 p4.op) (.string p4.nm) (.slice a4 n4 c4) (.slice aa4 p4.k ac4)), ((put44_off v14 b8 (.int .u8 p4.op) (.string p4.nm) (.slice a4 n4 c4) (.slice aa4 p4.k ac4) (by have := (Array.getElem?_eq_some_iff.1 hHeld.2.2.2.2.out.2).1; have := HXW.out; have := HS0.out; have := HN1.out; have := HN11.out; have := HN12.out; have := HN13.out; have := HN14.out; omega)).trans hHeld.2.2.2.2.out.2)⟩⟩
                  clear hK K
                  try simp only [List.getElem_toArray, List.getElem_cons_zero, List.getElem_cons_succ, Act.put, List.setIfInBounds_toArray, List.set_cons_zero, List.set_cons_succ]
                  obtain ⟨v15, hwk⟩ : ∃ z, (put44 v14 b8 (.int .u8 p4.op) (.string p4.nm) (.slice a4 n4 c4) (.slice aa4 p4.k ac4)) = z := ⟨_, rfl⟩
                  rw [show (((((v14).setCell ⟨b8, 0, none⟩ (.int .u8 p4.op)).setCell ⟨b8, 1, none⟩ (.string p4.nm)).setCell ⟨b8, 2, none⟩ (.slice a4 n4 c4)).setCell ⟨b8, 3, none⟩ (.slice aa4 p4.k ac4)) = v15 from hwk] at hHeld ⊢
                  rw [hwk] at HTW
                  have HN15 := HXW
                  clear hwk g0 g1 g2 g3 f0 f1 f2 f3
                  refine wpAnyH_done (by kernel_rfl) ?_ _
                  go_wp2_with fail
                  go_meet
                  case rel =>
                    exact ⟨b7, b8, rfl, rfl, Lib.hid ⟨L1, H1, L2, H2, _, _, _, _, _, _, _, _, HTW.out⟩⟩
          · rw [if_pos (by kernel_rfl)]
            go_simp
            have q16 : Below v11.heap.size v11 (v11.alloc (.cells #[.int .u8 0, .string ⟨#[]⟩, .slice none 0 0, .slice none 0 0] 25)) := (Below.refl _ v11).alloc (Nat.le_refl _) _
            have B8 : Hid ((v11.alloc (.cells #[.int .u8 0, .string ⟨#[]⟩, .slice none 0 0, .slice none 0 0] 25)).heap[v11.heap.size]? = some (.cells #[.int .u8 0, .string ⟨#[]⟩, .slice none 0 0, .slice none 0 0] 25 (0, 0))) := Lib.hid (al_new _ _)
            have HN16a : (v11.alloc (.cells #[.int .u8 0, .string ⟨#[]⟩, .slice none 0 0, .slice none 0 0] 25)).heap.size = v11.heap.size + 1 := by simp
            refine hK.out _ _ ?_ (fun hHeld => ?_)
            · exact ⟨cell_blk (blk_keep hHeld.2.2.2.2.out.2 q16) 0, cell_blk (blk_keep hHeld.2.2.2.2.out.2 q16) 1, cell_blk (blk_keep hHeld.2.2.2.2.out.2 q16) 2, cell_blk (blk_keep hHeld.2.2.2.2.out.2 q16) 3, Lib.hid ⟨(hHeld.2.2.2.2.out.1.trans (q16.mono hHeld.2.2.2.2.out.1.size)), (blk_keep hHeld.2.2.2.2.out.2 q16)⟩⟩
            clear hK K
            try simp only [List.getElem_toArray, List.getElem_cons_zero, List.getElem_cons_succ, Act.put, List.setIfInBounds_toArray, List.set_cons_zero, List.set_cons_succ]
            obtain ⟨b8, hb8⟩ : ∃ z, v11.heap.size = z := ⟨_, rfl⟩
            obtain ⟨v16, hwk⟩ : ∃ z, (v11.alloc (.cells #[.int .u8 0, .string ⟨#[]⟩, .slice none 0 0, .slice none 0 0] 25)) = z := ⟨_, rfl⟩
            rw [hwk] at hHeld B8 q16 HN16a ⊢
            have HN16 := Lib.hid (And.intro HN16a hb8)
            rw [hb8] at B8 ⊢
            have B7 := Lib.hid (blk_keep B7.out q16)
            have O1 := Lib.hid (O1.out.below (by have := HS0.out; have := HN1.out; have := HN11.out; omega) q16)
            clear q16 HN16a hb8 hwk
            refine wpAnyH_ready (rs := [3]) (by kernel_rfl) (by simp) ?_
            refine AllReadyH.cons (o := _) rfl (fun K hK => ?_) AllReadyH.nil
            · rw [if_pos (by kernel_rfl)]
              go_simp
              go_at_call 23
              (with_reducible refine (C23.out _ hHeld.2.2.2.2.out.1).mono ?_)
              rintro e v17 ⟨p4, a4, n4, c4, aa4, ac4, rfl, O2, q17⟩
              first | refine hK.out _ _ ?_ (fun hHeld => ?_) | (go_wp2_with fail; refine hK.out _ _ ?_ (fun hHeld => ?_))
              · exact ⟨cell_blk (blk_keep hHeld.2.2.2.2.out.2 q17) 0, cell_blk (blk_keep hHeld.2.2.2.2.out.2 q17) 1, cell_blk (blk_keep hHeld.2.2.2.2.out.2 q17) 2, cell_blk (blk_keep hHeld.2.2.2.2.out.2 q17) 3, Lib.hid ⟨(hHeld.2.2.2.2.out.1.trans (q17.mono hHeld.2.2.2.2.out.1.size)), (blk_keep hHeld.2.2.2.2.out.2 q17)⟩⟩
              clear hK K
              try simp only [List.getElem_toArray, List.getElem_cons_zero, List.getElem_cons_succ, Act.put, List.setIfInBounds_toArray, List.set_cons_zero, List.set_cons_succ]
              obtain ⟨L2, hL2⟩ : ∃ z, v16.heap.size = z := ⟨_, rfl⟩
              obtain ⟨H2, hH2⟩ : ∃ z, v17.heap.size = z := ⟨_, rfl⟩
              have HN17 := Lib.hid (And.intro q17.size (And.intro hL2 hH2))
              rw [hL2, hH2] at O2
              have B7 := Lib.hid (blk_keep B7.out q17)
              have B8 := Lib.hid (blk_keep B8.out q17)
              have O1 := Lib.hid (O1.out.below (by have := HS0.out; have := HN1.out; have := HN11.out; have := HN16.out; omega) q17)
              clear q17 hL2 hH2
              refine wpAnyH_ready (rs := [6]) (by kernel_rfl) (by simp) ?_
              refine AllReadyH.cons (o := _) rfl (fun K hK => ?_) AllReadyH.nil
              · have HTV : Hid (Tv w v17 xb b7 b8 n p an aa nn nc ac F L1 H1 L2 H2 (.int .u8 p3.op) (.string p3.nm) (.slice a3 n3 c3) (.slice aa3 p3.k ac3) (.int .u8 p4.op) (.string p4.nm) (.slice a4 n4 c4) (.slice aa4 p4.k ac4)) := Lib.hid ⟨hHeld.2.2.2.2.out.1, hHeld.2.2.2.2.out.2, B7.out, O1.out, B8.out, O2.out, by have := HXL.out; have := HXW.out; have := HS0.out; have := HN1.out; have := HN11.out; have := HN16.out; have := HN17.out; omega⟩
                have HTW := Lib.hid HTV.out.put
                clear HTV
                have b78 : ¬ b7 = b8 := by have := HS0.out; have := HN1.out; have := HN11.out; have := HN16.out; have := HN17.out; omega
                have b87 : ¬ b8 = b7 := by have := HS0.out; have := HN1.out; have := HN11.out; have := HN16.out; have := HN17.out; omega
                rw [if_pos (by kernel_rfl)]
                have g0 := cell_blk B7.out 0
                have f0 := blk_free B7.out 0
                have g1 := cell_blk B7.out 1
                have f1 := blk_free B7.out 1
                have g2 := cell_blk B7.out 2
                have f2 := blk_free B7.out 2
                have g3 := cell_blk B7.out 3
                have f3 := blk_free B7.out 3
                go_simp
                refine hK.out _ _ ?_ (fun hHeld => ?_)
                · exact ⟨cell_blk ((put44_off v17 b7 (.int .u8 p3.op) (.string p3.nm) (.slice a3 n3 c3) (.slice aa3 p3.k ac3) (by have := (Array.getElem?_eq_some_iff.1 hHeld.2.2.2.2.out.2).1; have := HXW.out; have := HS0.out; have := HN1.out; have := HN11.out; have := HN16.out; have := HN17.out; omega)).trans hHeld.2.2.2.2.out.2) 0, cell_blk ((put44_off v17 b7 (.int .u8 p3.op) (.string p3.nm) (.slice a3 n3 c3) (.slice aa3 p3.k ac3) (by have := (Array.getElem?_eq_some_iff.1 hHeld.2.2.2.2.out.2).1; have := HXW.out; have := HS0.out; have := HN1.out; have := HN11.out; have := HN16.out; have := HN17.out; omega)).trans hHeld.2.2.2.2.out.2) 1, cell_blk ((put44_off v17 b7 (.int .u8 p3.op) (.string p3.nm) (.slice a3 n3 c3) (.slice aa3 p3.k ac3) (by have := (Array.getElem?_eq_some_iff.1 hHeld.2.2.2.2.out.2).1; have := HXW.out; have := HS0.out; have := HN1.out; have := HN11.out; have := HN16.out; have := HN17.out; omega)).trans hHeld.2.2.2.2.out.2) 2, cell_blk ((put44_off v17 b7 (.int .u8 p3.op) (.string p3.nm) (.slice a3 n3 c3) (.slice aa3 p3.k ac3) (by have := (Array.getElem?_eq_some_iff.1 hHeld.2.2.2.2.out.2).1; have := HXW.out; have := HS0.out; have := HN1.out; have := HN11.out; have := HN16.out; have := HN17.out; omega)).trans hHeld.2.2.2.2.out.2) 3, Lib.hid ⟨(put44_below (W := v17) hHeld.2.2.2.2.out.1 (by have := HXL.out; have := HXW.out; have := HS0.out; have := HN1.out; have := HN11.out; have := HN16.out; have := HN17.out; omega) (.int .u8 p3.op) (.string p3.nm) (.slice a3 n3 c3) (.slice aa3 p3.k ac3)), ((put44_off v17 b7 (.int .u8 p3.op) (.string p3.nm) (.slice a3 n3 c3) (.slice aa3 p3.k ac3) (by have := (Array.getElem?_eq_some_iff.1 hHeld.2.2.2.2.out.2).1; have := HXW.out; have := HS0.out; have := HN1.out; have := HN11.out; have := HN16.out; have := HN17.out; omega)).trans hHeld.2.2.2.2.out.2)⟩⟩
                clear hK K
                try simp only [List.getElem_toArray, List.getElem_cons_zero, List.getElem_cons_succ, Act.put, List.setIfInBounds_toArray, List.set_cons_zero, List.set_cons_succ]
                obtain ⟨v18, hwk⟩ : ∃ z, (put44 v17 b7 (.int .u8 p3.op) (.string p3.nm) (.slice a3 n3 c3) (.slice aa3 p3.k ac3)) = z := ⟨_, rfl⟩
                rw [show (((((v17).setCell ⟨b7, 0, none⟩ (.int .u8 p3.op)).setCell ⟨b7, 1, none⟩ (.string p3.nm)).setCell ⟨b7, 2, none⟩ (.slice a3 n3 c3)).setCell ⟨b7, 3, none⟩ (.slice aa3 p3.k ac3)) = v18 from hwk] at hHeld ⊢
                rw [hwk] at HTW
                have B8 := Lib.hid ((show v18.heap[b8]? = v17.heap[b8]? by rw [← hwk]; exact put44_off _ _ _ _ _ _ b87).trans B8.out)
                have HN18 : Hid (v18.heap.size = v17.heap.size) := Lib.hid (by rw [← hwk]; exact put44_size _ _ _ _ _ _)
                clear hwk g0 g1 g2 g3 f0 f1 f2 f3
                refine wpAnyH_ready (rs := [7]) (by kernel_rfl) (by simp) ?_
                refine AllReadyH.cons (o := _) rfl (fun K hK => ?_) AllReadyH.nil
                · rw [if_pos (by kernel_rfl)]
                  have g0 := cell_blk B8.out 0
                  have f0 := blk_free B8.out 0
                  have g1 := cell_blk B8.out 1
                  have f1 := blk_free B8.out 1
                  have g2 := cell_blk B8.out 2
                  have f2 := blk_free B8.out 2
                  have g3 := cell_blk B8.out 3
                  have f3 := blk_free B8.out 3
                  go_simp
                  refine hK.out _ _ ?_ (fun hHeld => ?_)
                  · exact ⟨cell_blk ((put44_off v18 b8 (.int .u8 p4.op) (.string p4.nm) (.slice a4 n4 c4) (.slice aa4 p4.k ac4) (by have := (Array.getElem?_eq_some_iff.1 hHeld.2.2.2.2.out.2).1; have := HXW.out; have := HS0.out; have := HN1.out; have := HN11.out; have := HN16.out; have := HN17.out; have := HN18.out; omega)).trans hHeld.2.2.2.2.out.2) 0, cell_blk ((put44_off v18 b8 (.int .u8 p4.op) (.string p4.nm) (.slice a4 n4 c4) (.slice aa4 p4.k ac4) (by have := (Array.getElem?_eq_some_iff.1 hHeld.2.2.2.2.out.2).1; have := HXW.out; have := HS0.out; have := HN1.out; have := HN11.out; have := HN16.out; have := HN17.out; have := HN18.out; omega)).trans hHeld.2.2.2.2.out.2) 1, cell_blk ((put44_off v18 b8 (.int .u8 p4.op) (.string p4.nm) (.slice a4 n4 c4) (.slice aa4 p4.k ac4) (by have := (Array.getElem?_eq_some_iff.1 hHeld.2.2.2.2.out.2).1; have := HXW.out; have := HS0.out; have := HN1.out; have := HN11.out; have := HN16.out; have := HN17.out; have := HN18.out; omega)).trans hHeld.2.2.2.2.out.2) 2, cell_blk ((put44_off v18 b8 (.int .u8 p4.op) (.string p4.nm) (.slice a4 n4 c4) (.slice aa4 p4.k ac4) (by have := (Array.getElem?_eq_some_iff.1 hHeld.2.2.2.2.out.2).1; have := HXW.out; have := HS0.out; have := HN1.out; have := HN11.out; have := HN16.out; have := HN17.out; have := HN18.out; omega)).trans hHeld.2.2.2.2.out.2) 3, Lib.hid ⟨(put44_below (W := v18) hHeld.2.2.2.2.out.1 (by have := HXL.out; have := HXW.out; have := HS0.out; have := HN1.out; have := HN11.out; have := HN16.out; have := HN17.out; have := HN18.out; omega) (.int .u8 p4.op) (.string p4.nm) (.slice a4 n4 c4) (.slice aa4 p4.k ac4)), ((put44_off v18 b8 (.int .u8 p4.op) (.string p4.nm) (.slice a4 n4 c4) (.slice aa4 p4.k ac4) (by have := (Array.getElem?_eq_some_iff.1 hHeld.2.2.2.2.out.2).1; have := HXW.out; have := HS0.out; have := HN1.out; have := HN11.out; have := HN16.out; have := HN17.out; have := HN18.out; omega)).trans hHeld.2.2.2.2.out.2)⟩⟩
                  clear hK K
                  try simp only [List.getElem_toArray, List.getElem_cons_zero, List.getElem_cons_succ, Act.put, List.setIfInBounds_toArray, List.set_cons_zero, List.set_cons_succ]
                  obtain ⟨v19, hwk⟩ : ∃ z, (put44 v18 b8 (.int .u8 p4.op) (.string p4.nm) (.slice a4 n4 c4) (.slice aa4 p4.k ac4)) = z := ⟨_, rfl⟩
                  rw [show (((((v18).setCell ⟨b8, 0, none⟩ (.int .u8 p4.op)).setCell ⟨b8, 1, none⟩ (.string p4.nm)).setCell ⟨b8, 2, none⟩ (.slice a4 n4 c4)).setCell ⟨b8, 3, none⟩ (.slice aa4 p4.k ac4)) = v19 from hwk] at hHeld ⊢
                  rw [hwk] at HTW
                  have HN19 := HXW
                  clear hwk g0 g1 g2 g3 f0 f1 f2 f3
                  refine wpAnyH_done (by kernel_rfl) ?_ _
                  go_wp2_with fail
                  go_meet
                  case rel =>
                    exact ⟨b7, b8, rfl, rfl, Lib.hid ⟨L1, H1, L2, H2, _, _, _, _, _, _, _, _, HTW.out⟩⟩
        · rw [if_pos (by kernel_rfl)]
          go_simp
          have q20 : Below v1.heap.size v1 (v1.alloc (.cells #[.int .u8 0, .string ⟨#[]⟩, .slice none 0 0, .slice none 0 0] 25)) := (Below.refl _ v1).alloc (Nat.le_refl _) _
          have B8 : Hid ((v1.alloc (.cells #[.int .u8 0, .string ⟨#[]⟩, .slice none 0 0, .slice none 0 0] 25)).heap[v1.heap.size]? = some (.cells #[.int .u8 0, .string ⟨#[]⟩, .slice none 0 0, .slice none 0 0] 25 (0, 0))) := Lib.hid (al_new _ _)
          have HN20a : (v1.alloc (.cells #[.int .u8 0, .string ⟨#[]⟩, .slice none 0 0, .slice none 0 0] 25)).heap.size = v1.heap.size + 1 := by simp
          refine hK.out _ _ ?_ (fun hHeld => ?_)
          · exact ⟨cell_blk (blk_keep hHeld.2.2.2.2.out.2 q20) 0, cell_blk (blk_keep hHeld.2.2.2.2.out.2 q20) 1, cell_blk (blk_keep hHeld.2.2.2.2.out.2 q20) 2, cell_blk (blk_keep hHeld.2.2.2.2.out.2 q20) 3, Lib.hid ⟨(hHeld.2.2.2.2.out.1.trans (q20.mono hHeld.2.2.2.2.out.1.size)), (blk_keep hHeld.2.2.2.2.out.2 q20)⟩⟩
          clear hK K
          try simp only [List.getElem_toArray, List.getElem_cons_zero, List.getElem_cons_succ, Act.put, List.setIfInBounds_toArray, List.set_cons_zero, List.set_cons_succ]
          obtain ⟨b8, hb8⟩ : ∃ z, v1.heap.size = z := ⟨_, rfl⟩
          obtain ⟨v20, hwk⟩ : ∃ z, (v1.alloc (.cells #[.int .u8 0, .string ⟨#[]⟩, .slice none 0 0, .slice none 0 0] 25)) = z := ⟨_, rfl⟩
          rw [hwk] at hHeld B8 q20 HN20a ⊢
          have HN20 := Lib.hid (And.intro HN20a hb8)
          rw [hb8] at B8 ⊢
          have O1 := Lib.hid (O1.out.below (by have := HS0.out; have := HN1.out; omega) q20)
          clear q20 HN20a hb8 hwk
          refine wpAnyH_ready (rs := [3, 4]) (by kernel_rfl) (by simp) ?_
          refine AllReadyH.cons (o := _) rfl (fun K hK => ?_) (AllReadyH.cons (o := _) rfl (fun K hK => ?_) AllReadyH.nil)
          · rw [if_pos (by kernel_rfl)]
            go_simp
            go_at_call 23
            (with_reducible refine (C23.out _ hHeld.2.2.2.2.out.1).mono ?_)
            rintro e v21 ⟨p4, a4, n4, c4, aa4, ac4, rfl, O2, q21⟩
            first | refine hK.out _ _ ?_ (fun hHeld => ?_) | (go_wp2_with fail; refine hK.out _ _ ?_ (fun hHeld => ?_))
            · exact ⟨cell_blk (blk_keep hHeld.2.2.2.2.out.2 q21) 0, cell_blk (blk_keep hHeld.2.2.2.2.out.2 q21) 1, cell_blk (blk_keep hHeld.2.2.2.2.out.2 q21) 2, cell_blk (blk_keep hHeld.2.2.2.2.out.2 q21) 3, Lib.hid ⟨(hHeld.2.2.2.2.out.1.trans (q21.mono hHeld.2.2.2.2.out.1.size)), (blk_keep hHeld.2.2.2.2.out.2 q21)⟩⟩
            clear hK K
            try simp only [List.getElem_toArray, List.getElem_cons_zero, List.getElem_cons_succ, Act.put, List.setIfInBounds_toArray, List.set_cons_zero, List.set_cons_succ]
            obtain ⟨L2, hL2⟩ : ∃ z, v20.heap.size = z := ⟨_, rfl⟩
            obtain ⟨H2, hH2⟩ : ∃ z, v21.heap.size = z := ⟨_, rfl⟩
            have HN21 := Lib.hid (And.intro q21.size (And.intro hL2 hH2))
            rw [hL2, hH2] at O2
            have B8 := Lib.hid (blk_keep B8.out q21)
            have O1 := Lib.hid (O1.out.below (by have := HS0.out; have := HN1.out; have := HN20.out; omega) q21)
            clear q21 hL2 hH2
            refine wpAnyH_ready (rs := [4]) (by kernel_rfl) (by simp) ?_
            refine AllReadyH.cons (o := _) rfl (fun K hK => ?_) AllReadyH.nil
            · rw [if_pos (by kernel_rfl)]
              go_simp
              have q22 : Below v21.heap.size v21 (v21.alloc (.cells #[.int .u8 0, .string ⟨#[]⟩, .slice none 0 0, .slice none 0 0] 25)) := (Below.refl _ v21).alloc (Nat.le_refl _) _
              have B7 : Hid ((v21.alloc (.cells #[.int .u8 0, .string ⟨#[]⟩, .slice none 0 0, .slice none 0 0] 25)).heap[v21.heap.size]? = some (.cells #[.int .u8 0, .string ⟨#[]⟩, .slice none 0 0, .slice none 0 0] 25 (0, 0))) := Lib.hid (al_new _ _)
              have HN22a : (v21.alloc (.cells #[.int .u8 0, .string ⟨#[]⟩, .slice none 0 0, .slice none 0 0] 25)).heap.size = v21.heap.size + 1 := by simp
              refine hK.out _ _ ?_ (fun hHeld => ?_)
              · exact ⟨cell_blk (blk_keep hHeld.2.2.2.2.out.2 q22) 0, cell_blk (blk_keep hHeld.2.2.2.2.out.2 q22) 1, cell_blk (blk_keep hHeld.2.2.2.2.out.2 q22) 2, cell_blk (blk_keep hHeld.2.2.2.2.out.2 q22) 3, Lib.hid ⟨(hHeld.2.2.2.2.out.1.trans (q22.mono hHeld.2.2.2.2.out.1.size)), (blk_keep hHeld.2.2.2.2.out.2 q22)⟩⟩
              clear hK K
              try simp only [List.getElem_toArray, List.getElem_cons_zero, List.getElem_cons_succ, Act.put, List.setIfInBounds_toArray, List.set_cons_zero, List.set_cons_succ]
              obtain ⟨b7, hb7⟩ : ∃ z, v21.heap.size = z := ⟨_, rfl⟩
              obtain ⟨v22, hwk⟩ : ∃ z, (v21.alloc (.cells #[.int .u8 0, .string ⟨#[]⟩, .slice none 0 0, .slice none 0 0] 25)) = z := ⟨_, rfl⟩
              rw [hwk] at hHeld B7 q22 HN22a ⊢
              have HN22 := Lib.hid (And.intro HN22a hb7)
              rw [hb7] at B7 ⊢
              have B8 := Lib.hid (blk_keep B8.out q22)
              have O1 := Lib.hid (O1.out.below (by have := HS0.out; have := HN1.out; have := HN20.out; have := HN21.out; omega) q22)
              have O2 := Lib.hid (O2.out.below (by have := HS0.out; have := HN1.out; have := HN20.out; have := HN21.out; omega) q22)
              clear q22 HN22a hb7 hwk
              refine wpAnyH_ready (rs := [6]) (by kernel_rfl) (by simp) ?_
              refine AllReadyH.cons (o := _) rfl (fun K hK => ?_) AllReadyH.nil
              · have HTV : Hid (Tv w v22 xb b7 b8 n p an aa nn nc ac F L1 H1 L2 H2 (.int .u8 p3.op) (.string p3.nm) (.slice a3 n3 c3) (.slice aa3 p3.k ac3) (.int .u8 p4.op) (.string p4.nm) (.slice a4 n4 c4) (.slice aa4 p4.k ac4)) := Lib.hid ⟨hHeld.2.2.2.2.out.1, hHeld.2.2.2.2.out.2, B7.out, O1.out, B8.out, O2.out, by have := HXL.out; have := HXW.out; have := HS0.out; have := HN1.out; have := HN20.out; have := HN21.out; have := HN22.out; omega⟩
                have HTW := Lib.hid HTV.out.put
                clear HTV
                have b78 : ¬ b7 = b8 := by have := HS0.out; have := HN1.out; have := HN20.out; have := HN21.out; have := HN22.out; omega
                have b87 : ¬ b8 = b7 := by have := HS0.out; have := HN1.out; have := HN20.out; have := HN21.out; have := HN22.out; omega
                rw [if_pos (by kernel_rfl)]
                have g0 := cell_blk B7.out 0
                have f0 := blk_free B7.out 0
                have g1 := cell_blk B7.out 1
                have f1 := blk_free B7.out 1
                have g2 := cell_blk B7.out 2
                have f2 := blk_free B7.out 2
                have g3 := cell_blk B7.out 3
                have f3 := blk_free B7.out 3
                go_simp
                refine hK.out _ _ ?_ (fun hHeld => ?_)
                · exact ⟨cell_blk ((put44_off v22 b7 (.int .u8 p3.op) (.string p3.nm) (.slice a3 n3 c3) (.slice aa3 p3.k ac3) (by have := (Array.getElem?_eq_some_iff.1 hHeld.2.2.2.2.out.2).1; have := HXW.out; have := HS0.out; have := HN1.out; have := HN20.out; have := HN21.out; have := HN22.out; omega)).trans hHeld.2.2.2.2.out.2) 0, cell_blk ((put44_off v22 b7 (.int .u8 p3.op) (.string p3.nm) (.slice a3 n3 c3) (.slice aa3 p3.k ac3) (by have := (Array.getElem?_eq_some_iff.1 hHeld.2.2.2.2.out.2).1; have := HXW.out; have := HS0.out; have := HN1.out; have := HN20.out; have := HN21.out; have := HN22.out; omega)).trans hHeld.2.2.2.2.out.2) 1, cell_blk ((put44_off v22 b7 (.int .u8 p3.op) (.string p3.nm) (.slice a3 n3 c3) (.slice aa3 p3.k ac3) (by have := (Array.getElem?_eq_some_iff.1 hHeld.2.2.2.2.out.2).1; have := HXW.out; have := HS0.out; have := HN1.out; have := HN20.out; have := HN21.out; have := HN22.out; omega)).trans hHeld.2.2.2.2.out.2) 2, cell_blk ((put44_off v22 b7 (.int .u8 p3.op) (.string p3.nm) (.slice a3 n3 c3) (.slice aa3 p3.k ac3) (by have := (Array.getElem?_eq_some_iff.1 hHeld.2.2.2.2.out.2).1; have := HXW.out; have := HS0.out; have := HN1.out; have := HN20.out; have := HN21.out; have := HN22.out; omega)).trans hHeld.2.2.2.2.out.2) 3, Lib.hid ⟨(put44_below (W := v22) hHeld.2.2.2.2.out.1 (by have := HXL.out; have := HXW.out; have := HS0.out; have := HN1.out; have := HN20.out; have := HN21.out; have := HN22.out; omega) (.int .u8 p3.op) (.string p3.nm) (.slice a3 n3 c3) (.slice aa3 p3.k ac3)), ((put44_off v22 b7 (.int .u8 p3.op) (.string p3.nm) (.slice a3 n3 c3) (.slice aa3 p3.k ac3) (by have := (Array.getElem?_eq_some_iff.1 hHeld.2.2.2.2.out.2).1; have := HXW.out; have := HS0.out; have := HN1.out; have := HN20.out; have := HN21.out; have := HN22.out; omega)).trans hHeld.2.2.2.2.out.2)⟩⟩
                clear hK K
                try simp only [List.getElem_toArray, List.getElem_cons_zero, List.getElem_cons_succ, Act.put, List.setIfInBounds_toArray, List.set_cons_zero, List.set_cons_succ]
                obtain ⟨v23, hwk⟩ : ∃ z, (put44 v22 b7 (.int .u8 p3.op) (.string p3.nm) (.slice a3 n3 c3) (.slice aa3 p3.k ac3)) = z := ⟨_, rfl⟩
                rw [show (((((v22).setCell ⟨b7, 0, none⟩ (.int .u8 p3.op)).setCell ⟨b7, 1, none⟩ (.string p3.nm)).setCell ⟨b7, 2, none⟩ (.slice a3 n3 c3)).setCell ⟨b7, 3, none⟩ (.slice aa3 p3.k ac3)) = v23 from hwk] at hHeld ⊢
                rw [hwk] at HTW
                have B8 := Lib.hid ((show v23.heap[b8]? = v22.heap[b8]? by rw [← hwk]; exact put44_off _ _ _ _ _ _ b87).trans B8.out)
                have HN23 : Hid (v23.heap.size = v22.heap.size) := Lib.hid (by rw [← hwk]; exact put44_size _ _ _ _ _ _)
                clear hwk g0 g1 g2 g3 f0 f1 f2 f3
                refine wpAnyH_ready (rs := [7]) (by kernel_rfl) (by simp) ?_
                refine AllReadyH.cons (o := _) rfl (fun K hK => ?_) AllReadyH.nil
                · rw [if_pos (by kernel_rfl)]
                  have g0 := cell_blk B8.out 0
                  have f0 := blk_free B8.out 0
                  have g1 := cell_blk B8.out 1
                  have f1 := blk_free B8.out 1
                  have g2 := cell_blk B8.out 2
                  have f2 := blk_free B8.out 2
                  have g3 := cell_blk B8.out 3
                  have f3 := blk_free B8.out 3
                  go_simp
                  refine hK.out _ _ ?_ (fun hHeld => ?_)
                  · exact ⟨cell_blk ((put44_off v23 b8 (.int .u8 p4.op) (.string p4.nm) (.slice a4 n4 c4) (.slice aa4 p4.k ac4) (by have := (Array.getElem?_eq_some_iff.1 hHeld.2.2.2.2.out.2).1; have := HXW.out; have := HS0.out; have := HN1.out; have := HN20.out; have := HN21.out; have := HN22.out; have := HN23.out; omega)).trans hHeld.2.2.2.2.out.2) 0, cell_blk ((put44_off v23 b8 (.int .u8 p4.op) (.string p4.nm) (.slice a4 n4 c4) (.slice aa4 p4.k ac4) (by have := (Array.getElem?_eq_some_iff.1 hHeld.2.2.2.2.out.2).1; have := HXW.out; have := HS0.out; have := HN1.out; have := HN20.out; have := HN21.out; have := HN22.out; have := HN23.out; omega)).trans hHeld.2.2.2.2.out.2) 1, cell_blk ((put44_off v23 b8 (.int .u8 p4.op) (.string p4.nm) (.slice a4 n4 c4) (.slice aa4 p4.k ac4) (by have := (Array.getElem?_eq_some_iff.1 hHeld.2.2.2.2.out.2).1; have := HXW.out; have := HS0.out; have := HN1.out; have := HN20.out; have := HN21.out; have := HN22.out; have := HN23.out; omega)).trans hHeld.2.2.2.2.out.2) 2, cell_blk ((put44_off v23 b8 (.int .u8 p4.op) (.string p4.nm) (.slice a4 n4 c4) (.slice aa4 p4.k ac4) (by have := (Array.getElem?_eq_some_iff.1 hHeld.2.2.2.2.out.2).1; have := HXW.out; have := HS0.out; have := HN1.out; have := HN20.out; have := HN21.out; have := HN22.out; have := HN23.out; omega)).trans hHeld.2.2.2.2.out.2) 3, Lib.hid ⟨(put44_below (W := v23) hHeld.2.2.2.2.out.1 (by have := HXL.out; have := HXW.out; have := HS0.out; have := HN1.out; have := HN20.out; have := HN21.out; have := HN22.out; have := HN23.out; omega) (.int .u8 p4.op) (.string p4.nm) (.slice a4 n4 c4) (.slice aa4 p4.k ac4)), ((put44_off v23 b8 (.int .u8 p4.op) (.string p4.nm) (.slice a4 n4 c4) (.slice aa4 p4.k ac4) (by have := (Array.getElem?_eq_some_iff.1 hHeld.2.2.2.2.out.2).1; have := HXW.out; have := HS0.out; have := HN1.out; have := HN20.out; have := HN21.out; have := HN22.out; have := HN23.out; omega)).trans hHeld.2.2.2.2.out.2)⟩⟩
                  clear hK K
                  try simp only [List.getElem_toArray, List.getElem_cons_zero, List.getElem_cons_succ, Act.put, List.setIfInBounds_toArray, List.set_cons_zero, List.set_cons_succ]
                  obtain ⟨v24, hwk⟩ : ∃ z, (put44 v23 b8 (.int .u8 p4.op) (.string p4.nm) (.slice a4 n4 c4) (.slice aa4 p4.k ac4)) = z := ⟨_, rfl⟩
                  rw [show (((((v23).setCell ⟨b8, 0, none⟩ (.int .u8 p4.op)).setCell ⟨b8, 1, none⟩ (.string p4.nm)).setCell ⟨b8, 2, none⟩ (.slice a4 n4 c4)).setCell ⟨b8, 3, none⟩ (.slice aa4 p4.k ac4)) = v24 from hwk] at hHeld ⊢
                  rw [hwk] at HTW
                  have HN24 := HXW
                  clear hwk g0 g1 g2 g3 f0 f1 f2 f3
                  refine wpAnyH_done (by kernel_rfl) ?_ _
                  go_wp2_with fail
                  go_meet
                  case rel =>
                    exact ⟨b7, b8, rfl, rfl, Lib.hid ⟨L1, H1, L2, H2, _, _, _, _, _, _, _, _, HTW.out⟩⟩
          · rw [if_pos (by kernel_rfl)]
            go_simp
            have q25 : Below v20.heap.size v20 (v20.alloc (.cells #[.int .u8 0, .string ⟨#[]⟩, .slice none 0 0, .slice none 0 0] 25)) := (Below.refl _ v20).alloc (Nat.le_refl _) _
            have B7 : Hid ((v20.alloc (.cells #[.int .u8 0, .string ⟨#[]⟩, .slice none 0 0, .slice none 0 0] 25)).heap[v20.heap.size]? = some (.cells #[.int .u8 0, .string ⟨#[]⟩, .slice none 0 0, .slice none 0 0] 25 (0, 0))) := Lib.hid (al_new _ _)
            have HN25a : (v20.alloc (.cells #[.int .u8 0, .string ⟨#[]⟩, .slice none 0 0, .slice none 0 0] 25)).heap.size = v20.heap.size + 1 := by simp
            refine hK.out _ _ ?_ (fun hHeld => ?_)
            · exact ⟨cell_blk (blk_keep hHeld.2.2.2.2.out.2 q25) 0, cell_blk (blk_keep hHeld.2.2.2.2.out.2 q25) 1, cell_blk (blk_keep hHeld.2.2.2.2.out.2 q25) 2, cell_blk (blk_keep hHeld.2.2.2.2.out.2 q25) 3, Lib.hid ⟨(hHeld.2.2.2.2.out.1.trans (q25.mono hHeld.2.2.2.2.out.1.size)), (blk_keep hHeld.2.2.2.2.out.2 q25)⟩⟩
            clear hK K
            try simp only [List.getElem_toArray, List.getElem_cons_zero, List.getElem_cons_succ, Act.put, List.setIfInBounds_toArray, List.set_cons_zero, List.set_cons_succ]
            obtain ⟨b7, hb7⟩ : ∃ z, v20.heap.size = z := ⟨_, rfl⟩
            obtain ⟨v25, hwk⟩ : ∃ z, (v20.alloc (.cells #[.int .u8 0, .string ⟨#[]⟩, .slice none 0 0, .slice none 0 0] 25)) = z := ⟨_, rfl⟩
            rw [hwk] at hHeld B7 q25 HN25a ⊢
            have HN25 := Lib.hid (And.intro HN25a hb7)
            rw [hb7] at B7 ⊢
            have B8 := Lib.hid (blk_keep B8.out q25)
            have O1 := Lib.hid (O1.out.below (by have := HS0.out; have := HN1.out; have := HN20.out; omega) q25)
            clear q25 HN25a hb7 hwk
            refine wpAnyH_ready (rs := [3]) (by kernel_rfl) (by simp) ?_
            refine AllReadyH.cons (o := _) rfl (fun K hK => ?_) AllReadyH.nil
            · rw [if_pos (by kernel_rfl)]
              go_simp
              go_at_call 23
              (with_reducible refine (C23.out _ hHeld.2.2.2.2.out.1).mono ?_)
              rintro e v26 ⟨p4, a4, n4, c4, aa4, ac4, rfl, O2, q26⟩
              first | refine hK.out _ _ ?_ (fun hHeld => ?_) | (go_wp2_with fail; refine hK.out _ _ ?_ (fun hHeld => ?_))
              · exact ⟨cell_blk (blk_keep hHeld.2.2.2.2.out.2 q26) 0, cell_blk (blk_keep hHeld.2.2.2.2.out.2 q26) 1, cell_blk (blk_keep hHeld.2.2.2.2.out.2 q26) 2, cell_blk (blk_keep hHeld.2.2.2.2.out.2 q26) 3, Lib.hid ⟨(hHeld.2.2.2.2.out.1.trans (q26.mono hHeld.2.2.2.2.out.1.size)), (blk_keep hHeld.2.2.2.2.out.2 q26)⟩⟩
              clear hK K
              try simp only [List.getElem_toArray, List.getElem_cons_zero, List.getElem_cons_succ, Act.put, List.setIfInBounds_toArray, List.set_cons_zero, List.set_cons_succ]
              obtain ⟨L2, hL2⟩ : ∃ z, v25.heap.size = z := ⟨_, rfl⟩
              obtain ⟨H2, hH2⟩ : ∃ z, v26.heap.size = z := ⟨_, rfl⟩
              have HN26 := Lib.hid (And.intro q26.size (And.intro hL2 hH2))
              rw [hL2, hH2] at O2
              have B7 := Lib.hid (blk_keep B7.out q26)
              have B8 := Lib.hid (blk_keep B8.out q26)
              have O1 := Lib.hid (O1.out.below (by have := HS0.out; have := HN1.out; have := HN20.out; have := HN25.out; omega) q26)
              clear q26 hL2 hH2
              refine wpAnyH_ready (rs := [6]) (by kernel_rfl) (by simp) ?_
              refine AllReadyH.cons (o := _) rfl (fun K hK => ?_) AllReadyH.nil
              · have HTV : Hid (Tv w v26 xb b7 b8 n p an aa nn nc ac F L1 H1 L2 H2 (.int .u8 p3.op) (.string p3.nm) (.slice a3 n3 c3) (.slice aa3 p3.k ac3) (.int .u8 p4.op) (.string p4.nm) (.slice a4 n4 c4) (.slice aa4 p4.k ac4)) := Lib.hid ⟨hHeld.2.2.2.2.out.1, hHeld.2.2.2.2.out.2, B7.out, O1.out, B8.out, O2.out, by have := HXL.out; have := HXW.out; have := HS0.out; have := HN1.out; have := HN20.out; have := HN25.out; have := HN26.out; omega⟩
                have HTW := Lib.hid HTV.out.put
                clear HTV
                have b78 : ¬ b7 = b8 := by have := HS0.out; have := HN1.out; have := HN20.out; have := HN25.out; have := HN26.out; omega
                have b87 : ¬ b8 = b7 := by have := HS0.out; have := HN1.out; have := HN20.out; have := HN25.out; have := HN26.out; omega
                rw [if_pos (by kernel_rfl)]
                have g0 := cell_blk B7.out 0
                have f0 := blk_free B7.out 0
                have g1 := cell_blk B7.out 1
                have f1 := blk_free B7.out 1
                have g2 := cell_blk B7.out 2
                have f2 := blk_free B7.out 2
                have g3 := cell_blk B7.out 3
                have f3 := blk_free B7.out 3
                go_simp
                refine hK.out _ _ ?_ (fun hHeld => ?_)
                · exact ⟨cell_blk ((put44_off v26 b7 (.int .u8 p3.op) (.string p3.nm) (.slice a3 n3 c3) (.slice aa3 p3.k ac3) (by have := (Array.getElem?_eq_some_iff.1 hHeld.2.2.2.2.out.2).1; have := HXW.out; have := HS0.out; have := HN1.out; have := HN20.out; have := HN25.out; have := HN26.out; omega)).trans hHeld.2.2.2.2.out.2) 0, cell_blk ((put44_off v26 b7 (.int .u8 p3.op) (.string p3.nm) (.slice a3 n3 c3) (.slice aa3 p3.k ac3) (by have := (Array.getElem?_eq_some_iff.1 hHeld.2.2.2.2.out.2).1; have := HXW.out; have := HS0.out; have := HN1.out; have := HN20.out; have := HN25.out; have := HN26.out; omega)).trans hHeld.2.2.2.2.out.2) 1, cell_blk ((put44_off v26 b7 (.int .u8 p3.op) (.string p3.nm) (.slice a3 n3 c3) (.slice aa3 p3.k ac3) (by have := (Array.getElem?_eq_some_iff.1 hHeld.2.2.2.2.out.2).1; have := HXW.out; have := HS0.out; have := HN1.out; have := HN20.out; have := HN25.out; have := HN26.out; omega)).trans hHeld.2.2.2.2.out.2) 2, cell_blk ((put44_off v26 b7 (.int .u8 p3.op) (.string p3.nm) (.slice a3 n3 c3) (.slice aa3 p3.k ac3) (by have := (Array.getElem?_eq_some_iff.1 hHeld.2.2.2.2.out.2).1; have := HXW.out; have := HS0.out; have := HN1.out; have := HN20.out; have := HN25.out; have := HN26.out; omega)).trans hHeld.2.2.2.2.out.2) 3, Lib.hid ⟨(put44_below (W := v26) hHeld.2.2.2.2.out.1 (by have := HXL.out; have := HXW.out; have := HS0.out; have := HN1.out; have := HN20.out; have := HN25.out; have := HN26.out; omega) (.int .u8 p3.op) (.string p3.nm) (.slice a3 n3 c3) (.slice aa3 p3.k ac3)), ((put44_off v26 b7 (.int .u8 p3.op) (.string p3.nm) (.slice a3 n3 c3) (.slice aa3 p3.k ac3) (by have := (Array.getElem?_eq_some_iff.1 hHeld.2.2.2.2.out.2).1; have := HXW.out; have := HS0.out; have := HN1.out; have := HN20.out; have := HN25.out; have := HN26.out; omega)).trans hHeld.2.2.2.2.out.2)⟩⟩
                clear hK K
                try simp only [List.getElem_toArray, List.getElem_cons_zero, List.getElem_cons_succ, Act.put, List.setIfInBounds_toArray, List.set_cons_zero, List.set_cons_succ]
                obtain ⟨v27, hwk⟩ : ∃ z, (put44 v26 b7 (.int .u8 p3.op) (.string p3.nm) (.slice a3 n3 c3) (.slice aa3 p3.k ac3)) = z := ⟨_, rfl⟩
                rw [show (((((v26).setCell ⟨b7, 0, none⟩ (.int .u8 p3.op)).setCell ⟨b7, 1, none⟩ (.string p3.nm)).setCell ⟨b7, 2, none⟩ (.slice a3 n3 c3)).setCell ⟨b7, 3, none⟩ (.slice aa3 p3.k ac3)) = v27 from hwk] at hHeld ⊢
                rw [hwk] at HTW
                have B8 := Lib.hid ((show v27.heap[b8]? = v26.heap[b8]? by rw [← hwk]; exact put44_off _ _ _ _ _ _ b87).trans B8.out)
                have HN27 : Hid (v27.heap.size = v26.heap.size) := Lib.hid (by rw [← hwk]; exact put44_size _ _ _ _ _ _)
                clear hwk g0 g1 g2 g3 f0 f1 f2 f3
                refine wpAnyH_ready (rs := [7]) (by kernel_rfl) (by simp) ?_
                refine AllReadyH.cons (o := _) rfl (fun K hK => ?_) AllReadyH.nil
                · rw [if_pos (by kernel_rfl)]
                  have g0 := cell_blk B8.out 0
                  have f0 := blk_free B8.out 0
                  have g1 := cell_blk B8.out 1
                  have f1 := blk_free B8.out 1
                  have g2 := cell_blk B8.out 2
                  have f2 := blk_free B8.out 2
                  have g3 := cell_blk B8.out 3
                  have f3 := blk_free B8.out 3
                  go_simp
                  refine hK.out _ _ ?_ (fun hHeld => ?_)
                  · exact ⟨cell_blk ((put44_off v27 b8 (.int .u8 p4.op) (.string p4.nm) (.slice a4 n4 c4) (.slice aa4 p4.k ac4) (by have := (Array.getElem?_eq_some_iff.1 hHeld.2.2.2.2.out.2).1; have := HXW.out; have := HS0.out; have := HN1.out; have := HN20.out; have := HN25.out; have := HN26.out; have := HN27.out; omega)).trans hHeld.2.2.2.2.out.2) 0, cell_blk ((put44_off v27 b8 (.int .u8 p4.op) (.string p4.nm) (.slice a4 n4 c4) (.slice aa4 p4.k ac4) (by have := (Array.getElem?_eq_some_iff.1 hHeld.2.2.2.2.out.2).1; have := HXW.out; have := HS0.out; have := HN1.out; have := HN20.out; have := HN25.out; have := HN26.out; have := HN27.out; omega)).trans hHeld.2.2.2.2.out.2) 1, cell_blk ((put44_off v27 b8 (.int .u8 p4.op) (.string p4.nm) (.slice a4 n4 c4) (.slice aa4 p4.k ac4) (by have := (Array.getElem?_eq_some_iff.1 hHeld.2.2.2.2.out.2).1; have := HXW.out; have := HS0.out; have := HN1.out; have := HN20.out; have := HN25.out; have := HN26.out; have := HN27.out; omega)).trans hHeld.2.2.2.2.out.2) 2, cell_blk ((put44_off v27 b8 (.int .u8 p4.op) (.string p4.nm) (.slice a4 n4 c4) (.slice aa4 p4.k ac4) (by have := (Array.getElem?_eq_some_iff.1 hHeld.2.2.2.2.out.2).1; have := HXW.out; have := HS0.out; have := HN1.out; have := HN20.out; have := HN25.out; have := HN26.out; have := HN27.out; omega)).trans hHeld.2.2.2.2.out.2) 3, Lib.hid ⟨(put44_below (W := v27) hHeld.2.2.2.2.out.1 (by have := HXL.out; have := HXW.out; have := HS0.out; have := HN1.out; have := HN20.out; have := HN25.out; have := HN26.out; have := HN27.out; omega) (.int .u8 p4.op) (.string p4.nm) (.slice a4 n4 c4) (.slice aa4 p4.k ac4)), ((put44_off v27 b8 (.int .u8 p4.op) (.string p4.nm) (.slice a4 n4 c4) (.slice aa4 p4.k ac4) (by have := (Array.getElem?_eq_some_iff.1 hHeld.2.2.2.2.out.2).1; have := HXW.out; have := HS0.out; have := HN1.out; have := HN20.out; have := HN25.out; have := HN26.out; have := HN27.out; omega)).trans hHeld.2.2.2.2.out.2)⟩⟩
                  clear hK K
                  try simp only [List.getElem_toArray, List.getElem_cons_zero, List.getElem_cons_succ, Act.put, List.setIfInBounds_toArray, List.set_cons_zero, List.set_cons_succ]
                  obtain ⟨v28, hwk⟩ : ∃ z, (put44 v27 b8 (.int .u8 p4.op) (.string p4.nm) (.slice a4 n4 c4) (.slice aa4 p4.k ac4)) = z := ⟨_, rfl⟩
                  rw [show (((((v27).setCell ⟨b8, 0, none⟩ (.int .u8 p4.op)).setCell ⟨b8, 1, none⟩ (.string p4.nm)).setCell ⟨b8, 2, none⟩ (.slice a4 n4 c4)).setCell ⟨b8, 3, none⟩ (.slice aa4 p4.k ac4)) = v28 from hwk] at hHeld ⊢
                  rw [hwk] at HTW
                  have HN28 := HXW
                  clear hwk g0 g1 g2 g3 f0 f1 f2 f3
                  refine wpAnyH_done (by kernel_rfl) ?_ _
                  go_wp2_with fail
                  go_meet
                  case rel =>
                    exact ⟨b7, b8, rfl, rfl, Lib.hid ⟨L1, H1, L2, H2, _, _, _, _, _, _, _, _, HTW.out⟩⟩
      · rw [if_pos (by kernel_rfl)]
        go_simp
        have q29 : Below wd.heap.size wd (wd.alloc (.cells #[.int .u8 0, .string ⟨#[]⟩, .slice none 0 0, .slice none 0 0] 25)) := (Below.refl _ wd).alloc (Nat.le_refl _) _
        have B7 : Hid ((wd.alloc (.cells #[.int .u8 0, .string ⟨#[]⟩, .slice none 0 0, .slice none 0 0] 25)).heap[wd.heap.size]? = some (.cells #[.int .u8 0, .string ⟨#[]⟩, .slice none 0 0, .slice none 0 0] 25 (0, 0))) := Lib.hid (al_new _ _)
        have HN29a : (wd.alloc (.cells #[.int .u8 0, .string ⟨#[]⟩, .slice none 0 0, .slice none 0 0] 25)).heap.size = wd.heap.size + 1 := by simp
        refine hK.out _ _ ?_ (fun hHeld => ?_)
        · exact ⟨cell_blk (blk_keep hHeld.2.2.2.2.out.2 q29) 0, cell_blk (blk_keep hHeld.2.2.2.2.out.2 q29) 1, cell_blk (blk_keep hHeld.2.2.2.2.out.2 q29) 2, cell_blk (blk_keep hHeld.2.2.2.2.out.2 q29) 3, Lib.hid ⟨(hHeld.2.2.2.2.out.1.trans (q29.mono hHeld.2.2.2.2.out.1.size)), (blk_keep hHeld.2.2.2.2.out.2 q29)⟩⟩
        clear hK K
        try simp only [List.getElem_toArray, List.getElem_cons_zero, List.getElem_cons_succ, Act.put, List.setIfInBounds_toArray, List.set_cons_zero, List.set_cons_succ]
        obtain ⟨b7, hb7⟩ : ∃ z, wd.heap.size = z := ⟨_, rfl⟩
        obtain ⟨v29, hwk⟩ : ∃ z, (wd.alloc (.cells #[.int .u8 0, .string ⟨#[]⟩, .slice none 0 0, .slice none 0 0] 25)) = z := ⟨_, rfl⟩
        rw [hwk] at hHeld B7 q29 HN29a ⊢
        have HN29 := Lib.hid (And.intro HN29a hb7)
        rw [hb7] at B7 ⊢
        clear q29 HN29a hb7 hwk
        refine wpAnyH_ready (rs := [1, 5]) (by kernel_rfl) (by simp) ?_
        refine AllReadyH.cons (o := _) rfl (fun K hK => ?_) (AllReadyH.cons (o := _) rfl (fun K hK => ?_) AllReadyH.nil)
        · rw [if_pos (by kernel_rfl)]
          go_simp
          go_at_call 23
          (with_reducible refine (C23.out _ hHeld.2.2.2.2.out.1).mono ?_)
          rintro e v30 ⟨p3, a3, n3, c3, aa3, ac3, rfl, O1, q30⟩
          first | refine hK.out _ _ ?_ (fun hHeld => ?_) | (go_wp2_with fail; refine hK.out _ _ ?_ (fun hHeld => ?_))
          · exact ⟨cell_blk (blk_keep hHeld.2.2.2.2.out.2 q30) 0, cell_blk (blk_keep hHeld.2.2.2.2.out.2 q30) 1, cell_blk (blk_keep hHeld.2.2.2.2.out.2 q30) 2, cell_blk (blk_keep hHeld.2.2.2.2.out.2 q30) 3, Lib.hid ⟨(hHeld.2.2.2.2.out.1.trans (q30.mono hHeld.2.2.2.2.out.1.size)), (blk_keep hHeld.2.2.2.2.out.2 q30)⟩⟩
          clear hK K
          try simp only [List.getElem_toArray, List.getElem_cons_zero, List.getElem_cons_succ, Act.put, List.setIfInBounds_toArray, List.set_cons_zero, List.set_cons_succ]
          obtain ⟨L1, hL1⟩ : ∃ z, v29.heap.size = z := ⟨_, rfl⟩
          obtain ⟨H1, hH1⟩ : ∃ z, v30.heap.size = z := ⟨_, rfl⟩
          have HN30 := Lib.hid (And.intro q30.size (And.intro hL1 hH1))
          rw [hL1, hH1] at O1
          have B7 := Lib.hid (blk_keep B7.out q30)
          clear q30 hL1 hH1
          refine wpAnyH_ready (rs := [3, 5]) (by kernel_rfl) (by simp) ?_
          refine AllReadyH.cons (o := _) rfl (fun K hK => ?_) (AllReadyH.cons (o := _) rfl (fun K hK => ?_) AllReadyH.nil)
          · rw [if_pos (by kernel_rfl)]
            go_simp
            go_at_call 23
            (with_reducible refine (C23.out _ hHeld.2.2.2.2.out.1).mono ?_)
            rintro e v31 ⟨p4, a4, n4, c4, aa4, ac4, rfl, O2, q31⟩
            first | refine hK.out _ _ ?_ (fun hHeld => ?_) | (go_wp2_with fail; refine hK.out _ _ ?_ (fun hHeld => ?_))
            · exact ⟨cell_blk (blk_keep hHeld.2.2.2.2.out.2 q31) 0, cell_blk (blk_keep hHeld.2.2.2.2.out.2 q31) 1, cell_blk (blk_keep hHeld.2.2.2.2.out.2 q31) 2, cell_blk (blk_keep hHeld.2.2.2.2.out.2 q31) 3, Lib.hid ⟨(hHeld.2.2.2.2.out.1.trans (q31.mono hHeld.2.2.2.2.out.1.size)), (blk_keep hHeld.2.2.2.2.out.2 q31)⟩⟩
            clear hK K
            try simp only [List.getElem_toArray, List.getElem_cons_zero, List.getElem_cons_succ, Act.put, List.setIfInBounds_toArray, List.set_cons_zero, List.set_cons_succ]
            obtain ⟨L2, hL2⟩ : ∃ z, v30.heap.size = z := ⟨_, rfl⟩
            obtain ⟨H2, hH2⟩ : ∃ z, v31.heap.size = z := ⟨_, rfl⟩
            have HN31 := Lib.hid (And.intro q31.size (And.intro hL2 hH2))
            rw [hL2, hH2] at O2
            have B7 := Lib.hid (blk_keep B7.out q31)
            have O1 := Lib.hid (O1.out.below (by have := HS0.out; have := HN29.out; have := HN30.out; omega) q31)
            clear q31 hL2 hH2
            refine wpAnyH_ready (rs := [5]) (by kernel_rfl) (by simp) ?_
            refine AllReadyH.cons (o := _) rfl (fun K hK => ?_) AllReadyH.nil
            · rw [if_pos (by kernel_rfl)]
              go_simp
              have q32 : Below v31.heap.size v31 (v31.alloc (.cells #[.int .u8 0, .string ⟨#[]⟩, .slice none 0 0, .slice none 0 0] 25)) := (Below.refl _ v31).alloc (Nat.le_refl _) _
              have B8 : Hid ((v31.alloc (.cells #[.int .u8 0, .string ⟨#[]⟩, .slice none 0 0, .slice none 0 0] 25)).heap[v31.heap.size]? = some (.cells #[.int .u8 0, .string ⟨#[]⟩, .slice none 0 0, .slice none 0 0] 25 (0, 0))) := Lib.hid (al_new _ _)
              have HN32a : (v31.alloc (.cells #[.int .u8 0, .string ⟨#[]⟩, .slice none 0 0, .slice none 0 0] 25)).heap.size = v31.heap.size + 1 := by simp
              refine hK.out _ _ ?_ (fun hHeld => ?_)
              · exact ⟨cell_blk (blk_keep hHeld.2.2.2.2.out.2 q32) 0, cell_blk (blk_keep hHeld.2.2.2.2.out.2 q32) 1, cell_blk (blk_keep hHeld.2.2.2.2.out.2 q32) 2, cell_blk (blk_keep hHeld.2.2.2.2.out.2 q32) 3, Lib.hid ⟨(hHeld.2.2.2.2.out.1.trans (q32.mono hHeld.2.2.2.2.out.1.size)), (blk_keep hHeld.2.2.2.2.out.2 q32)⟩⟩
              clear hK K
              try simp only [List.getElem_toArray, List.getElem_cons_zero, List.getElem_cons_succ, Act.put, List.setIfInBounds_toArray, List.set_cons_zero, List.set_cons_succ]
              obtain ⟨b8, hb8⟩ : ∃ z, v31.heap.size = z := ⟨_, rfl⟩
              obtain ⟨v32, hwk⟩ : ∃ z, (v31.alloc (.cells #[.int .u8 0, .string ⟨#[]⟩, .slice none 0 0, .slice none 0 0] 25)) = z := ⟨_, rfl⟩
              rw [hwk] at hHeld B8 q32 HN32a ⊢
              have HN32 := Lib.hid (And.intro HN32a hb8)
              rw [hb8] at B8 ⊢
              have B7 := Lib.hid (blk_keep B7.out q32)
              have O1 := Lib.hid (O1.out.below (by have := HS0.out; have := HN29.out; have := HN30.out; have := HN31.out; omega) q32)
              have O2 := Lib.hid (O2.out.below (by have := HS0.out; have := HN29.out; have := HN30.out; have := HN31.out; omega) q32)
              clear q32 HN32a hb8 hwk
              refine wpAnyH_ready (rs := [6]) (by kernel_rfl) (by simp) ?_
              refine AllReadyH.cons (o := _) rfl (fun K hK => ?_) AllReadyH.nil
              · have HTV : Hid (Tv w v32 xb b7 b8 n p an aa nn nc ac F L1 H1 L2 H2 (.int .u8 p3.op) (.string p3.nm) (.slice a3 n3 c3) (.slice aa3 p3.k ac3) (.int .u8 p4.op) (.string p4.nm) (.slice a4 n4 c4) (.slice aa4 p4.k ac4)) := Lib.hid ⟨hHeld.2.2.2.2.out.1, hHeld.2.2.2.2.out.2, B7.out, O1.out, B8.out, O2.out, by have := HXL.out; have := HXW.out; have := HS0.out; have := HN29.out; have := HN30.out; have := HN31.out; have := HN32.out; omega⟩
                have HTW := Lib.hid HTV.out.put
                clear HTV
                have b78 : ¬ b7 = b8 := by have := HS0.out; have := HN29.out; have := HN30.out; have := HN31.out; have := HN32.out; omega
                have b87 : ¬ b8 = b7 := by have := HS0.out; have := HN29.out; have := HN30.out; have := HN31.out; have := HN32.out; omega
                rw [if_pos (by kernel_rfl)]
                have g0 := cell_blk B7.out 0
                have f0 := blk_free B7.out 0
                have g1 := cell_blk B7.out 1
                have f1 := blk_free B7.out 1
                have g2 := cell_blk B7.out 2
                have f2 := blk_free B7.out 2
                have g3 := cell_blk B7.out 3
                have f3 := blk_free B7.out 3
                go_simp
                refine hK.out _ _ ?_ (fun hHeld => ?_)
                · exact ⟨cell_blk ((put44_off v32 b7 (.int .u8 p3.op) (.string p3.nm) (.slice a3 n3 c3) (.slice aa3 p3.k ac3) (by have := (Array.getElem?_eq_some_iff.1 hHeld.2.2.2.2.out.2).1; have := HXW.out; have := HS0.out; have := HN29.out; have := HN30.out; have := HN31.out; have := HN32.out; omega)).trans hHeld.2.2.2.2.out.2) 0, cell_blk ((put44_off v32 b7 (.int .u8 p3.op) (.string p3.nm) (.slice a3 n3 c3) (.slice aa3 p3.k ac3) (by have := (Array.getElem?_eq_some_iff.1 hHeld.2.2.2.2.out.2).1; have := HXW.out; have := HS0.out; have := HN29.out; have := HN30.out; have := HN31.out; have := HN32.out; omega)).trans hHeld.2.2.2.2.out.2) 1, cell_blk ((put44_off v32 b7 (.int .u8 p3.op) (.string p3.nm) (.slice a3 n3 c3) (.slice aa3 p3.k ac3) (by have := (Array.getElem?_eq_some_iff.1 hHeld.2.2.2.2.out.2).1; have := HXW.out; have := HS0.out; have := HN29.out; have := HN30.out; have := HN31.out; have := HN32.out; omega)).trans hHeld.2.2.2.2.out.2) 2, cell_blk ((put44_off v32 b7 (.int .u8 p3.op) (.string p3.nm) (.slice a3 n3 c3) (.slice aa3 p3.k ac3) (by have := (Array.getElem?_eq_some_iff.1 hHeld.2.2.2.2.out.2).1; have := HXW.out; have := HS0.out; have := HN29.out; have := HN30.out; have := HN31.out; have := HN32.out; omega)).trans hHeld.2.2.2.2.out.2) 3, Lib.hid ⟨(put44_below (W := v32) hHeld.2.2.2.2.out.1 (by have := HXL.out; have := HXW.out; have := HS0.out; have := HN29.out; have := HN30.out; have := HN31.out; have := HN32.out; omega) (.int .u8 p3.op) (.string p3.nm) (.slice a3 n3 c3) (.slice aa3 p3.k ac3)), ((put44_off v32 b7 (.int .u8 p3.op) (.string p3.nm) (.slice a3 n3 c3) (.slice aa3 p3.k ac3) (by have := (Array.getElem?_eq_some_iff.1 hHeld.2.2.2.2.out.2).1; have := HXW.out; have := HS0.out; have := HN29.out; have := HN30.out; have := HN31.out; have := HN32.out; omega)).trans hHeld.2.2.2.2.out.2)⟩⟩
                clear hK K
                try simp only [List.getElem_toArray, List.getElem_cons_zero, List.getElem_cons_succ, Act.put, List.setIfInBounds_toArray, List.set_cons_zero, List.set_cons_succ]
                obtain ⟨v33, hwk⟩ : ∃ z, (put44 v32 b7 (.int .u8 p3.op) (.string p3.nm) (.slice a3 n3 c3) (.slice aa3 p3.k ac3)) = z := ⟨_, rfl⟩
                rw [show (((((v32).setCell ⟨b7, 0, none⟩ (.int .u8 p3.op)).setCell ⟨b7, 1, none⟩ (.string p3.nm)).setCell ⟨b7, 2, none⟩ (.slice a3 n3 c3)).setCell ⟨b7, 3, none⟩ (.slice aa3 p3.k ac3)) = v33 from hwk] at hHeld ⊢
                rw [hwk] at HTW
                have B8 := Lib.hid ((show v33.heap[b8]? = v32.heap[b8]? by rw [← hwk]; exact put44_off _ _ _ _ _ _ b87).trans B8.out)
                have HN33 : Hid (v33.heap.size = v32.heap.size) := Lib.hid (by rw [← hwk]; exact put44_size _ _ _ _ _ _)
                clear hwk g0 g1 g2 g3 f0 f1 f2 f3
                refine wpAnyH_ready (rs := [7]) (by kernel_rfl) (by simp) ?_
                refine AllReadyH.cons (o := _) rfl (fun K hK => ?_) AllReadyH.nil
                · rw [if_pos (by kernel_rfl)]
                  have g0 := cell_blk B8.out 0
                  have f0 := blk_free B8.out 0
                  have g1 := cell_blk B8.out 1
                  have f1 := blk_free B8.out 1
                  have g2 := cell_blk B8.out 2
                  have f2 := blk_free B8.out 2
                  have g3 := cell_blk B8.out 3
                  have f3 := blk_free B8.out 3
                  go_simp
                  refine hK.out _ _ ?_ (fun hHeld => ?_)
                  · exact ⟨cell_blk ((put44_off v33 b8 (.int .u8 p4.op) (.string p4.nm) (.slice a4 n4 c4) (.slice aa4 p4.k ac4) (by have := (Array.getElem?_eq_some_iff.1 hHeld.2.2.2.2.out.2).1; have := HXW.out; have := HS0.out; have := HN29.out; have := HN30.out; have := HN31.out; have := HN32.out; have := HN33.out; omega)).trans hHeld.2.2.2.2.out.2) 0, cell_blk ((put44_off v33 b8 (.int .u8 p4.op) (.string p4.nm) (.slice a4 n4 c4) (.slice aa4 p4.k ac4) (by have := (Array.getElem?_eq_some_iff.1 hHeld.2.2.2.2.out.2).1; have := HXW.out; have := HS0.out; have := HN29.out; have := HN30.out; have := HN31.out; have := HN32.out; have := HN33.out; omega)).trans hHeld.2.2.2.2.out.2) 1, cell_blk ((put44_off v33 b8 (.int .u8 p4.op) (.string p4.nm) (.slice a4 n4 c4) (.slice aa4 p4.k ac4) (by have := (Array.getElem?_eq_some_iff.1 hHeld.2.2.2.2.out.2).1; have := HXW.out; have := HS0.out; have := HN29.out; have := HN30.out; have := HN31.out; have := HN32.out; have := HN33.out; omega)).trans hHeld.2.2.2.2.out.2) 2, cell_blk ((put44_off v33 b8 (.int .u8 p4.op) (.string p4.nm) (.slice a4 n4 c4) (.slice aa4 p4.k ac4) (by have := (Array.getElem?_eq_some_iff.1 hHeld.2.2.2.2.out.2).1; have := HXW.out; have := HS0.out; have := HN29.out; have := HN30.out; have := HN31.out; have := HN32.out; have := HN33.out; omega)).trans hHeld.2.2.2.2.out.2) 3, Lib.hid ⟨(put44_below (W := v33) hHeld.2.2.2.2.out.1 (by have := HXL.out; have := HXW.out; have := HS0.out; have := HN29.out; have := HN30.out; have := HN31.out; have := HN32.out; have := HN33.out; omega) (.int .u8 p4.op) (.string p4.nm) (.slice a4 n4 c4) (.slice aa4 p4.k ac4)), ((put44_off v33 b8 (.int .u8 p4.op) (.string p4.nm) (.slice a4 n4 c4) (.slice aa4 p4.k ac4) (by have := (Array.getElem?_eq_some_iff.1 hHeld.2.2.2.2.out.2).1; have := HXW.out; have := HS0.out; have := HN29.out; have := HN30.out; have := HN31.out; have := HN32.out; have := HN33.out; omega)).trans hHeld.2.2.2.2.out.2)⟩⟩
                  clear hK K
                  try simp only [List.getElem_toArray, List.getElem_cons_zero, List.getElem_cons_succ, Act.put, List.setIfInBounds_toArray, List.set_cons_zero, List.set_cons_succ]
                  obtain ⟨v34, hwk⟩ : ∃ z, (put44 v33 b8 (.int .u8 p4.op) (.string p4.nm) (.slice a4 n4 c4) (.slice aa4 p4.k ac4)) = z := ⟨_, rfl⟩
                  rw [show (((((v33).setCell ⟨b8, 0, none⟩ (.int .u8 p4.op)).setCell ⟨b8, 1, none⟩ (.string p4.nm)).setCell ⟨b8, 2, none⟩ (.slice a4 n4 c4)).setCell ⟨b8, 3, none⟩ (.slice aa4 p4.k ac4)) = v34 from hwk] at hHeld ⊢
                  rw [hwk] at HTW
                  have HN34 := HXW
                  clear hwk g0 g1 g2 g3 f0 f1 f2 f3
                  refine wpAnyH_done (by kernel_rfl) ?_ _
                  go_wp2_with fail
                  go_meet
                  case rel =>
                    exact ⟨b7, b8, rfl, rfl, Lib.hid ⟨L1, H1, L2, H2, _, _, _, _, _, _, _, _, HTW.out⟩⟩
          · rw [if_pos (by kernel_rfl)]
            go_simp
            have q35 : Below v30.heap.size v30 (v30.alloc (.cells #[.int .u8 0, .string ⟨#[]⟩, .slice none 0 0, .slice none 0 0] 25)) := (Below.refl _ v30).alloc (Nat.le_refl _) _
            have B8 : Hid ((v30.alloc (.cells #[.int .u8 0, .string ⟨#[]⟩, .slice none 0 0, .slice none 0 0] 25)).heap[v30.heap.size]? = some (.cells #[.int .u8 0, .string ⟨#[]⟩, .slice none 0 0, .slice none 0 0] 25 (0, 0))) := Lib.hid (al_new _ _)
            have HN35a : (v30.alloc (.cells #[.int .u8 0, .string ⟨#[]⟩, .slice none 0 0, .slice none 0 0] 25)).heap.size = v30.heap.size + 1 := by simp
            refine hK.out _ _ ?_ (fun hHeld => ?_)
            · exact ⟨cell_blk (blk_keep hHeld.2.2.2.2.out.2 q35) 0, cell_blk (blk_keep hHeld.2.2.2.2.out.2 q35) 1, cell_blk (blk_keep hHeld.2.2.2.2.out.2 q35) 2, cell_blk (blk_keep hHeld.2.2.2.2.out.2 q35) 3, Lib.hid ⟨(hHeld.2.2.2.2.out.1.trans (q35.mono hHeld.2.2.2.2.out.1.size)), (blk_keep hHeld.2.2.2.2.out.2 q35)⟩⟩
            clear hK K
            try simp only [List.getElem_toArray, List.getElem_cons_zero, List.getElem_cons_succ, Act.put, List.setIfInBounds_toArray, List.set_cons_zero, List.set_cons_succ]
            obtain ⟨b8, hb8⟩ : ∃ z, v30.heap.size = z := ⟨_, rfl⟩
            obtain ⟨v35, hwk⟩ : ∃ z, (v30.alloc (.cells #[.int .u8 0, .string ⟨#[]⟩, .slice none 0 0, .slice none 0 0] 25)) = z := ⟨_, rfl⟩
            rw [hwk] at hHeld B8 q35 HN35a ⊢
            have HN35 := Lib.hid (And.intro HN35a hb8)
            rw [hb8] at B8 ⊢
            have B7 := Lib.hid (blk_keep B7.out q35)
            have O1 := Lib.hid (O1.out.below (by have := HS0.out; have := HN29.out; have := HN30.out; omega) q35)
            clear q35 HN35a hb8 hwk
            refine wpAnyH_ready (rs := [3]) (by kernel_rfl) (by simp) ?_
            refine AllReadyH.cons (o := _) rfl (fun K hK => ?_) AllReadyH.nil
            · rw [if_pos (by kernel_rfl)]
              go_simp
              go_at_call 23
              (with_reducible refine (C23.out _ hHeld.2.2.2.2.out.1).mono ?_)
              rintro e v36 ⟨p4, a4, n4, c4, aa4, ac4, rfl, O2, q36⟩
              first | refine hK.out _ _ ?_ (fun hHeld => ?_) | (go_wp2_with fail; refine hK.out _ _ ?_ (fun hHeld => ?_))
              · exact ⟨cell_blk (blk_keep hHeld.2.2.2.2.out.2 q36) 0, cell_blk (blk_keep hHeld.2.2.2.2.out.2 q36) 1, cell_blk (blk_keep hHeld.2.2.2.2.out.2 q36) 2, cell_blk (blk_keep hHeld.2.2.2.2.out.2 q36) 3, Lib.hid ⟨(hHeld.2.2.2.2.out.1.trans (q36.mono hHeld.2.2.2.2.out.1.size)), (blk_keep hHeld.2.2.2.2.out.2 q36)⟩⟩
              clear hK K
              try simp only [List.getElem_toArray, List.getElem_cons_zero, List.getElem_cons_succ, Act.put, List.setIfInBounds_toArray, List.set_cons_zero, List.set_cons_succ]
              obtain ⟨L2, hL2⟩ : ∃ z, v35.heap.size = z := ⟨_, rfl⟩
              obtain ⟨H2, hH2⟩ : ∃ z, v36.heap.size = z := ⟨_, rfl⟩
              have HN36 := Lib.hid (And.intro q36.size (And.intro hL2 hH2))
              rw [hL2, hH2] at O2
              have B7 := Lib.hid (blk_keep B7.out q36)
              have B8 := Lib.hid (blk_keep B8.out q36)
              have O1 := Lib.hid (O1.out.below (by have := HS0.out; have := HN29.out; have := HN30.out; have := HN35.out; omega) q36)
              clear q36 hL2 hH2
              refine wpAnyH_ready (rs := [6]) (by kernel_rfl) (by simp) ?_
              refine AllReadyH.cons (o := _) rfl (fun K hK => ?_) AllReadyH.nil
              · have HTV : Hid (Tv w v36 xb b7 b8 n p an aa nn nc ac F L1 H1 L2 H2 (.int .u8 p3.op) (.string p3.nm) (.slice a3 n3 c3) (.slice aa3 p3.k ac3) (.int .u8 p4.op) (.string p4.nm) (.slice a4 n4 c4) (.slice aa4 p4.k ac4)) := Lib.hid ⟨hHeld.2.2.2.2.out.1, hHeld.2.2.2.2.out.2, B7.out, O1.out, B8.out, O2.out, by have := HXL.out; have := HXW.out; have := HS0.out; have := HN29.out; have := HN30.out; have := HN35.out; have := HN36.out; omega⟩
                have HTW := Lib.hid HTV.out.put
                clear HTV
                have b78 : ¬ b7 = b8 := by have := HS0.out; have := HN29.out; have := HN30.out; have := HN35.out; have := HN36.out; omega
                have b87 : ¬ b8 = b7 := by have := HS0.out; have := HN29.out; have := HN30.out; have := HN35.out; have := HN36.out; omega
                rw [if_pos (by kernel_rfl)]
                have g0 := cell_blk B7.out 0
                have f0 := blk_free B7.out 0
                have g1 := cell_blk B7.out 1
                have f1 := blk_free B7.out 1
                have g2 := cell_blk B7.out 2
                have f2 := blk_free B7.out 2
                have g3 := cell_blk B7.out 3
                have f3 := blk_free B7.out 3
                go_simp
                refine hK.out _ _ ?_ (fun hHeld => ?_)
                · exact ⟨cell_blk ((put44_off v36 b7 (.int .u8 p3.op) (.string p3.nm) (.slice a3 n3 c3) (.slice aa3 p3.k ac3) (by have := (Array.getElem?_eq_some_iff.1 hHeld.2.2.2.2.out.2).1; have := HXW.out; have := HS0.out; have := HN29.out; have := HN30.out; have := HN35.out; have := HN36.out; omega)).trans hHeld.2.2.2.2.out.2) 0, cell_blk ((put44_off v36 b7 (.int .u8 p3.op) (.string p3.nm) (.slice a3 n3 c3) (.slice aa3 p3.k ac3) (by have := (Array.getElem?_eq_some_iff.1 hHeld.2.2.2.2.out.2).1; have := HXW.out; have := HS0.out; have := HN29.out; have := HN30.out; have := HN35.out; have := HN36.out; omega)).trans hHeld.2.2.2.2.out.2) 1, cell_blk ((put44_off v36 b7 (.int .u8 p3.op) (.string p3.nm) (.slice a3 n3 c3) (.slice aa3 p3.k ac3) (by have := (Array.getElem?_eq_some_iff.1 hHeld.2.2.2.2.out.2).1; have := HXW.out; have := HS0.out; have := HN29.out; have := HN30.out; have := HN35.out; have := HN36.out; omega)).trans hHeld.2.2.2.2.out.2) 2, cell_blk ((put44_off v36 b7 (.int .u8 p3.op) (.string p3.nm) (.slice a3 n3 c3) (.slice aa3 p3.k ac3) (by have := (Array.getElem?_eq_some_iff.1 hHeld.2.2.2.2.out.2).1; have := HXW.out; have := HS0.out; have := HN29.out; have := HN30.out; have := HN35.out; have := HN36.out; omega)).trans hHeld.2.2.2.2.out.2) 3, Lib.hid ⟨(put44_below (W := v36) hHeld.2.2.2.2.out.1 (by have := HXL.out; have := HXW.out; have := HS0.out; have := HN29.out; have := HN30.out; have := HN35.out; have := HN36.out; omega) (.int .u8 p3.op) (.string p3.nm) (.slice a3 n3 c3) (.slice aa3 p3.k ac3)), ((put44_off v36 b7 (.int .u8 p3.op) (.string p3.nm) (.slice a3 n3 c3) (.slice aa3 p3.k ac3) (by have := (Array.getElem?_eq_some_iff.1 hHeld.2.2.2.2.out.2).1; have := HXW.out; have := HS0.out; have := HN29.out; have := HN30.out; have := HN35.out; have := HN36.out; omega)).trans hHeld.2.2.2.2.out.2)⟩⟩
                clear hK K
                try simp only [List.getElem_toArray, List.getElem_cons_zero, List.getElem_cons_succ, Act.put, List.setIfInBounds_toArray, List.set_cons_zero, List.set_cons_succ]
                obtain ⟨v37, hwk⟩ : ∃ z, (put44 v36 b7 (.int .u8 p3.op) (.string p3.nm) (.slice a3 n3 c3) (.slice aa3 p3.k ac3)) = z := ⟨_, rfl⟩
                rw [show (((((v36).setCell ⟨b7, 0, none⟩ (.int .u8 p3.op)).setCell ⟨b7, 1, none⟩ (.string p3.nm)).setCell ⟨b7, 2, none⟩ (.slice a3 n3 c3)).setCell ⟨b7, 3, none⟩ (.slice aa3 p3.k ac3)) = v37 from hwk] at hHeld ⊢
                rw [hwk] at HTW
                have B8 := Lib.hid ((show v37.heap[b8]? = v36.heap[b8]? by rw [← hwk]; exact put44_off _ _ _ _ _ _ b87).trans B8.out)
                have HN37 : Hid (v37.heap.size = v36.heap.size) := Lib.hid (by rw [← hwk]; exact put44_size _ _ _ _ _ _)
                clear hwk g0 g1 g2 g3 f0 f1 f2 f3
                refine wpAnyH_ready (rs := [7]) (by kernel_rfl) (by simp) ?_
                refine AllReadyH.cons (o := _) rfl (fun K hK => ?_) AllReadyH.nil
                · rw [if_pos (by kernel_rfl)]
                  have g0 := cell_blk B8.out 0
                  have f0 := blk_free B8.out 0
                  have g1 := cell_blk B8.out 1
                  have f1 := blk_free B8.out 1
                  have g2 := cell_blk B8.out 2
                  have f2 := blk_free B8.out 2
                  have g3 := cell_blk B8.out 3
                  have f3 := blk_free B8.out 3
                  go_simp
                  refine hK.out _ _ ?_ (fun hHeld => ?_)
                  · exact ⟨cell_blk ((put44_off v37 b8 (.int .u8 p4.op) (.string p4.nm) (.slice a4 n4 c4) (.slice aa4 p4.k ac4) (by have := (Array.getElem?_eq_some_iff.1 hHeld.2.2.2.2.out.2).1; have := HXW.out; have := HS0.out; have := HN29.out; have := HN30.out; have := HN35.out; have := HN36.out; have := HN37.out; omega)).trans hHeld.2.2.2.2.out.2) 0, cell_blk ((put44_off v37 b8 (.int .u8 p4.op) (.string p4.nm) (.slice a4 n4 c4) (.slice aa4 p4.k ac4) (by have := (Array.getElem?_eq_some_iff.1 hHeld.2.2.2.2.out.2).1; have := HXW.out; have := HS0.out; have := HN29.out; have := HN30.out; have := HN35.out; have := HN36.out; have := HN37.out; omega)).trans hHeld.2.2.2.2.out.2) 1, cell_blk ((put44_off v37 b8 (.int .u8 p4.op) (.string p4.nm) (.slice a4 n4 c4) (.slice aa4 p4.k ac4) (by have := (Array.getElem?_eq_some_iff.1 hHeld.2.2.2.2.out.2).1; have := HXW.out; have := HS0.out; have := HN29.out; have := HN30.out; have := HN35.out; have := HN36.out; have := HN37.out; omega)).trans hHeld.2.2.2.2.out.2) 2, cell_blk ((put44_off v37 b8 (.int .u8 p4.op) (.string p4.nm) (.slice a4 n4 c4) (.slice aa4 p4.k ac4) (by have := (Array.getElem?_eq_some_iff.1 hHeld.2.2.2.2.out.2).1; have := HXW.out; have := HS0.out; have := HN29.out; have := HN30.out; have := HN35.out; have := HN36.out; have := HN37.out; omega)).trans hHeld.2.2.2.2.out.2) 3, Lib.hid ⟨(put44_below (W := v37) hHeld.2.2.2.2.out.1 (by have := HXL.out; have := HXW.out; have := HS0.out; have := HN29.out; have := HN30.out; have := HN35.out; have := HN36.out; have := HN37.out; omega) (.int .u8 p4.op) (.string p4.nm) (.slice a4 n4 c4) (.slice aa4 p4.k ac4)), ((put44_off v37 b8 (.int .u8 p4.op) (.string p4.nm) (.slice a4 n4 c4) (.slice aa4 p4.k ac4) (by have := (Array.getElem?_eq_some_iff.1 hHeld.2.2.2.2.out.2).1; have := HXW.out; have := HS0.out; have := HN29.out; have := HN30.out; have := HN35.out; have := HN36.out; have := HN37.out; omega)).trans hHeld.2.2.2.2.out.2)⟩⟩
                  clear hK K
                  try simp only [List.getElem_toArray, List.getElem_cons_zero, List.getElem_cons_succ, Act.put, List.setIfInBounds_toArray, List.set_cons_zero, List.set_cons_succ]
                  obtain ⟨v38, hwk⟩ : ∃ z, (put44 v37 b8 (.int .u8 p4.op) (.string p4.nm) (.slice a4 n4 c4) (.slice aa4 p4.k ac4)) = z := ⟨_, rfl⟩
                  rw [show (((((v37).setCell ⟨b8, 0, none⟩ (.int .u8 p4.op)).setCell ⟨b8, 1, none⟩ (.string p4.nm)).setCell ⟨b8, 2, none⟩ (.slice a4 n4 c4)).setCell ⟨b8, 3, none⟩ (.slice aa4 p4.k ac4)) = v38 from hwk] at hHeld ⊢
                  rw [hwk] at HTW
                  have HN38 := HXW
                  clear hwk g0 g1 g2 g3 f0 f1 f2 f3
                  refine wpAnyH_done (by kernel_rfl) ?_ _
                  go_wp2_with fail
                  go_meet
                  case rel =>
                    exact ⟨b7, b8, rfl, rfl, Lib.hid ⟨L1, H1, L2, H2, _, _, _, _, _, _, _, _, HTW.out⟩⟩
        · rw [if_pos (by kernel_rfl)]
          go_simp
          have q39 : Below v29.heap.size v29 (v29.alloc (.cells #[.int .u8 0, .string ⟨#[]⟩, .slice none 0 0, .slice none 0 0] 25)) := (Below.refl _ v29).alloc (Nat.le_refl _) _
          have B8 : Hid ((v29.alloc (.cells #[.int .u8 0, .string ⟨#[]⟩, .slice none 0 0, .slice none 0 0] 25)).heap[v29.heap.size]? = some (.cells #[.int .u8 0, .string ⟨#[]⟩, .slice none 0 0, .slice none 0 0] 25 (0, 0))) := Lib.hid (al_new _ _)
          have HN39a : (v29.alloc (.cells #[.int .u8 0, .string ⟨#[]⟩, .slice none 0 0, .slice none 0 0] 25)).heap.size = v29.heap.size + 1 := by simp
          refine hK.out _ _ ?_ (fun hHeld => ?_)
          · exact ⟨cell_blk (blk_keep hHeld.2.2.2.2.out.2 q39) 0, cell_blk (blk_keep hHeld.2.2.2.2.out.2 q39) 1, cell_blk (blk_keep hHeld.2.2.2.2.out.2 q39) 2, cell_blk (blk_keep hHeld.2.2.2.2.out.2 q39) 3, Lib.hid ⟨(hHeld.2.2.2.2.out.1.trans (q39.mono hHeld.2.2.2.2.out.1.size)), (blk_keep hHeld.2.2.2.2.out.2 q39)⟩⟩
          clear hK K
          try simp only [List.getElem_toArray, List.getElem_cons_zero, List.getElem_cons_succ, Act.put, List.setIfInBounds_toArray, List.set_cons_zero, List.set_cons_succ]
          obtain ⟨b8, hb8⟩ : ∃ z, v29.heap.size = z := ⟨_, rfl⟩
          obtain ⟨v39, hwk⟩ : ∃ z, (v29.alloc (.cells #[.int .u8 0, .string ⟨#[]⟩, .slice none 0 0, .slice none 0 0] 25)) = z := ⟨_, rfl⟩
          rw [hwk] at hHeld B8 q39 HN39a ⊢
          have HN39 := Lib.hid (And.intro HN39a hb8)
          rw [hb8] at B8 ⊢
          have B7 := Lib.hid (blk_keep B7.out q39)
          clear q39 HN39a hb8 hwk
          refine wpAnyH_ready (rs := [1]) (by kernel_rfl) (by simp) ?_
          refine AllReadyH.cons (o := _) rfl (fun K hK => ?_) AllReadyH.nil
          · rw [if_pos (by kernel_rfl)]
            go_simp
            go_at_call 23
            (with_reducible refine (C23.out _ hHeld.2.2.2.2.out.1).mono ?_)
            rintro e v40 ⟨p3, a3, n3, c3, aa3, ac3, rfl, O1, q40⟩
            first | refine hK.out _ _ ?_ (fun hHeld => ?_) | (go_wp2_with fail; refine hK.out _ _ ?_ (fun hHeld => ?_))
            · exact ⟨cell_blk (blk_keep hHeld.2.2.2.2.out.2 q40) 0, cell_blk (blk_keep hHeld.2.2.2.2.out.2 q40) 1, cell_blk (blk_keep hHeld.2.2.2.2.out.2 q40) 2, cell_blk (blk_keep hHeld.2.2.2.2.out.2 q40) 3, Lib.hid ⟨(hHeld.2.2.2.2.out.1.trans (q40.mono hHeld.2.2.2.2.out.1.size)), (blk_keep hHeld.2.2.2.2.out.2 q40)⟩⟩
            clear hK K
            try simp only [List.getElem_toArray, List.getElem_cons_zero, List.getElem_cons_succ, Act.put, List.setIfInBounds_toArray, List.set_cons_zero, List.set_cons_succ]
            obtain ⟨L1, hL1⟩ : ∃ z, v39.heap.size = z := ⟨_, rfl⟩
            obtain ⟨H1, hH1⟩ : ∃ z, v40.heap.size = z := ⟨_, rfl⟩
            have HN40 := Lib.hid (And.intro q40.size (And.intro hL1 hH1))
            rw [hL1, hH1] at O1
            have B7 := Lib.hid (blk_keep B7.out q40)
            have B8 := Lib.hid (blk_keep B8.out q40)
            clear q40 hL1 hH1
            refine wpAnyH_ready (rs := [3]) (by kernel_rfl) (by simp) ?_
            refine AllReadyH.cons (o := _) rfl (fun K hK => ?_) AllReadyH.nil
            · rw [if_pos (by kernel_rfl)]
              go_simp
              go_at_call 23
              (with_reducible refine (C23.out _ hHeld.2.2.2.2.out.1).mono ?_)
              rintro e v41 ⟨p4, a4, n4, c4, aa4, ac4, rfl, O2, q41⟩
              first | refine hK.out _ _ ?_ (fun hHeld => ?_) | (go_wp2_with fail; refine hK.out _ _ ?_ (fun hHeld => ?_))
              · exact ⟨cell_blk (blk_keep hHeld.2.2.2.2.out.2 q41) 0, cell_blk (blk_keep hHeld.2.2.2.2.out.2 q41) 1, cell_blk (blk_keep hHeld.2.2.2.2.out.2 q41) 2, cell_blk (blk_keep hHeld.2.2.2.2.out.2 q41) 3, Lib.hid ⟨(hHeld.2.2.2.2.out.1.trans (q41.mono hHeld.2.2.2.2.out.1.size)), (blk_keep hHeld.2.2.2.2.out.2 q41)⟩⟩
              clear hK K
              try simp only [List.getElem_toArray, List.getElem_cons_zero, List.getElem_cons_succ, Act.put, List.setIfInBounds_toArray, List.set_cons_zero, List.set_cons_succ]
              obtain ⟨L2, hL2⟩ : ∃ z, v40.heap.size = z := ⟨_, rfl⟩
              obtain ⟨H2, hH2⟩ : ∃ z, v41.heap.size = z := ⟨_, rfl⟩
              have HN41 := Lib.hid (And.intro q41.size (And.intro hL2 hH2))
              rw [hL2, hH2] at O2
              have B7 := Lib.hid (blk_keep B7.out q41)
              have B8 := Lib.hid (blk_keep B8.out q41)
              have O1 := Lib.hid (O1.out.below (by have := HS0.out; have := HN29.out; have := HN39.out; have := HN40.out; omega) q41)
              clear q41 hL2 hH2
              refine wpAnyH_ready (rs := [6]) (by kernel_rfl) (by simp) ?_
              refine AllReadyH.cons (o := _) rfl (fun K hK => ?_) AllReadyH.nil
              · have HTV : Hid (Tv w v41 xb b7 b8 n p an aa nn nc ac F L1 H1 L2 H2 (.int .u8 p3.op) (.string p3.nm) (.slice a3 n3 c3) (.slice aa3 p3.k ac3) (.int .u8 p4.op) (.string p4.nm) (.slice a4 n4 c4) (.slice aa4 p4.k ac4)) := Lib.hid ⟨hHeld.2.2.2.2.out.1, hHeld.2.2.2.2.out.2, B7.out, O1.out, B8.out, O2.out, by have := HXL.out; have := HXW.out; have := HS0.out; have := HN29.out; have := HN39.out; have := HN40.out; have := HN41.out; omega⟩
                have HTW := Lib.hid HTV.out.put
                clear HTV
                have b78 : ¬ b7 = b8 := by have := HS0.out; have := HN29.out; have := HN39.out; have := HN40.out; have := HN41.out; omega
                have b87 : ¬ b8 = b7 := by have := HS0.out; have := HN29.out; have := HN39.out; have := HN40.out; have := HN41.out; omega
                rw [if_pos (by kernel_rfl)]
                have g0 := cell_blk B7.out 0
                have f0 := blk_free B7.out 0
                have g1 := cell_blk B7.out 1
                have f1 := blk_free B7.out 1
                have g2 := cell_blk B7.out 2
                have f2 := blk_free B7.out 2
                have g3 := cell_blk B7.out 3
                have f3 := blk_free B7.out 3
                go_simp
                refine hK.out _ _ ?_ (fun hHeld => ?_)
                · exact ⟨cell_blk ((put44_off v41 b7 (.int .u8 p3.op) (.string p3.nm) (.slice a3 n3 c3) (.slice aa3 p3.k ac3) (by have := (Array.getElem?_eq_some_iff.1 hHeld.2.2.2.2.out.2).1; have := HXW.out; have := HS0.out; have := HN29.out; have := HN39.out; have := HN40.out; have := HN41.out; omega)).trans hHeld.2.2.2.2.out.2) 0, cell_blk ((put44_off v41 b7 (.int .u8 p3.op) (.string p3.nm) (.slice a3 n3 c3) (.slice aa3 p3.k ac3) (by have := (Array.getElem?_eq_some_iff.1 hHeld.2.2.2.2.out.2).1; have := HXW.out; have := HS0.out; have := HN29.out; have := HN39.out; have := HN40.out; have := HN41.out; omega)).trans hHeld.2.2.2.2.out.2) 1, cell_blk ((put44_off v41 b7 (.int .u8 p3.op) (.string p3.nm) (.slice a3 n3 c3) (.slice aa3 p3.k ac3) (by have := (Array.getElem?_eq_some_iff.1 hHeld.2.2.2.2.out.2).1; have := HXW.out; have := HS0.out; have := HN29.out; have := HN39.out; have := HN40.out; have := HN41.out; omega)).trans hHeld.2.2.2.2.out.2) 2, cell_blk ((put44_off v41 b7 (.int .u8 p3.op) (.string p3.nm) (.slice a3 n3 c3) (.slice aa3 p3.k ac3) (by have := (Array.getElem?_eq_some_iff.1 hHeld.2.2.2.2.out.2).1; have := HXW.out; have := HS0.out; have := HN29.out; have := HN39.out; have := HN40.out; have := HN41.out; omega)).trans hHeld.2.2.2.2.out.2) 3, Lib.hid ⟨(put44_below (W := v41) hHeld.2.2.2.2.out.1 (by have := HXL.out; have := HXW.out; have := HS0.out; have := HN29.out; have := HN39.out; have := HN40.out; have := HN41.out; omega) (.int .u8 p3.op) (.string p3.nm) (.slice a3 n3 c3) (.slice aa3 p3.k ac3)), ((put44_off v41 b7 (.int .u8 p3.op) (.string p3.nm) (.slice a3 n3 c3) (.slice aa3 p3.k ac3) (by have := (Array.getElem?_eq_some_iff.1 hHeld.2.2.2.2.out.2).1; have := HXW.out; have := HS0.out; have := HN29.out; have := HN39.out; have := HN40.out; have := HN41.out; omega)).trans hHeld.2.2.2.2.out.2)⟩⟩
                clear hK K
                try simp only [List.getElem_toArray, List.getElem_cons_zero, List.getElem_cons_succ, Act.put, List.setIfInBounds_toArray, List.set_cons_zero, List.set_cons_succ]
                obtain ⟨v42, hwk⟩ : ∃ z, (put44 v41 b7 (.int .u8 p3.op) (.string p3.nm) (.slice a3 n3 c3) (.slice aa3 p3.k ac3)) = z := ⟨_, rfl⟩
                rw [show (((((v41).setCell ⟨b7, 0, none⟩ (.int .u8 p3.op)).setCell ⟨b7, 1, none⟩ (.string p3.nm)).setCell ⟨b7, 2, none⟩ (.slice a3 n3 c3)).setCell ⟨b7, 3, none⟩ (.slice aa3 p3.k ac3)) = v42 from hwk] at hHeld ⊢
                rw [hwk] at HTW
                have B8 := Lib.hid ((show v42.heap[b8]? = v41.heap[b8]? by rw [← hwk]; exact put44_off _ _ _ _ _ _ b87).trans B8.out)
                have HN42 : Hid (v42.heap.size = v41.heap.size) := Lib.hid (by rw [← hwk]; exact put44_size _ _ _ _ _ _)
                clear hwk g0 g1 g2 g3 f0 f1 f2 f3
                refine wpAnyH_ready (rs := [7]) (by kernel_rfl) (by simp) ?_
                refine AllReadyH.cons (o := _) rfl (fun K hK => ?_) AllReadyH.nil
                · rw [if_pos (by kernel_rfl)]
                  have g0 := cell_blk B8.out 0
                  have f0 := blk_free B8.out 0
                  have g1 := cell_blk B8.out 1
                  have f1 := blk_free B8.out 1
                  have g2 := cell_blk B8.out 2
                  have f2 := blk_free B8.out 2
                  have g3 := cell_blk B8.out 3
                  have f3 := blk_free B8.out 3
                  go_simp
                  refine hK.out _ _ ?_ (fun hHeld => ?_)
                  · exact ⟨cell_blk ((put44_off v42 b8 (.int .u8 p4.op) (.string p4.nm) (.slice a4 n4 c4) (.slice aa4 p4.k ac4) (by have := (Array.getElem?_eq_some_iff.1 hHeld.2.2.2.2.out.2).1; have := HXW.out; have := HS0.out; have := HN29.out; have := HN39.out; have := HN40.out; have := HN41.out; have := HN42.out; omega)).trans hHeld.2.2.2.2.out.2) 0, cell_blk ((put44_off v42 b8 (.int .u8 p4.op) (.string p4.nm) (.slice a4 n4 c4) (.slice aa4 p4.k ac4) (by have := (Array.getElem?_eq_some_iff.1 hHeld.2.2.2.2.out.2).1; have := HXW.out; have := HS0.out; have := HN29.out; have := HN39.out; have := HN40.out; have := HN41.out; have := HN42.out; omega)).trans hHeld.2.2.2.2.out.2) 1, cell_blk ((put44_off v42 b8 (.int .u8 p4.op) (.string p4.nm) (.slice a4 n4 c4) (.slice aa4 p4.k ac4) (by have := (Array.getElem?_eq_some_iff.1 hHeld.2.2.2.2.out.2).1; have := HXW.out; have := HS0.out; have := HN29.out; have := HN39.out; have := HN40.out; have := HN41.out; have := HN42.out; omega)).trans hHeld.2.2.2.2.out.2) 2, cell_blk ((put44_off v42 b8 (.int .u8 p4.op) (.string p4.nm) (.slice a4 n4 c4) (.slice aa4 p4.k ac4) (by have := (Array.getElem?_eq_some_iff.1 hHeld.2.2.2.2.out.2).1; have := HXW.out; have := HS0.out; have := HN29.out; have := HN39.out; have := HN40.out; have := HN41.out; have := HN42.out; omega)).trans hHeld.2.2.2.2.out.2) 3, Lib.hid ⟨(put44_below (W := v42) hHeld.2.2.2.2.out.1 (by have := HXL.out; have := HXW.out; have := HS0.out; have := HN29.out; have := HN39.out; have := HN40.out; have := HN41.out; have := HN42.out; omega) (.int .u8 p4.op) (.string p4.nm) (.slice a4 n4 c4) (.slice aa4 p4.k ac4)), ((put44_off v42 b8 (.int .u8 p4.op) (.string p4.nm) (.slice a4 n4 c4) (.slice aa4 p4.k ac4) (by have := (Array.getElem?_eq_some_iff.1 hHeld.2.2.2.2.out.2).1; have := HXW.out; have := HS0.out; have := HN29.out; have := HN39.out; have := HN40.out; have := HN41.out; have := HN42.out; omega)).trans hHeld.2.2.2.2.out.2)⟩⟩
                  clear hK K
                  try simp only [List.getElem_toArray, List.getElem_cons_zero, List.getElem_cons_succ, Act.put, List.setIfInBounds_toArray, List.set_cons_zero, List.set_cons_succ]
                  obtain ⟨v43, hwk⟩ : ∃ z, (put44 v42 b8 (.int .u8 p4.op) (.string p4.nm) (.slice a4 n4 c4) (.slice aa4 p4.k ac4)) = z := ⟨_, rfl⟩
                  rw [show (((((v42).setCell ⟨b8, 0, none⟩ (.int .u8 p4.op)).setCell ⟨b8, 1, none⟩ (.string p4.nm)).setCell ⟨b8, 2, none⟩ (.slice a4 n4 c4)).setCell ⟨b8, 3, none⟩ (.slice aa4 p4.k ac4)) = v43 from hwk] at hHeld ⊢
                  rw [hwk] at HTW
                  have HN43 := HXW
                  clear hwk g0 g1 g2 g3 f0 f1 f2 f3
                  refine wpAnyH_done (by kernel_rfl) ?_ _
                  go_wp2_with fail
                  go_meet
                  case rel =>
                    exact ⟨b7, b8, rfl, rfl, Lib.hid ⟨L1, H1, L2, H2, _, _, _, _, _, _, _, _, HTW.out⟩⟩
      · rw [if_pos (by kernel_rfl)]
        go_simp
        have q44 : Below wd.heap.size wd (wd.alloc (.cells #[.int .u8 0, .string ⟨#[]⟩, .slice none 0 0, .slice none 0 0] 25)) := (Below.refl _ wd).alloc (Nat.le_refl _) _
        have B8 : Hid ((wd.alloc (.cells #[.int .u8 0, .string ⟨#[]⟩, .slice none 0 0, .slice none 0 0] 25)).heap[wd.heap.size]? = some (.cells #[.int .u8 0, .string ⟨#[]⟩, .slice none 0 0, .slice none 0 0] 25 (0, 0))) := Lib.hid (al_new _ _)
        have HN44a : (wd.alloc (.cells #[.int .u8 0, .string ⟨#[]⟩, .slice none 0 0, .slice none 0 0] 25)).heap.size = wd.heap.size + 1 := by simp
        refine hK.out _ _ ?_ (fun hHeld => ?_)
        · exact ⟨cell_blk (blk_keep hHeld.2.2.2.2.out.2 q44) 0, cell_blk (blk_keep hHeld.2.2.2.2.out.2 q44) 1, cell_blk (blk_keep hHeld.2.2.2.2.out.2 q44) 2, cell_blk (blk_keep hHeld.2.2.2.2.out.2 q44) 3, Lib.hid ⟨(hHeld.2.2.2.2.out.1.trans (q44.mono hHeld.2.2.2.2.out.1.size)), (blk_keep hHeld.2.2.2.2.out.2 q44)⟩⟩
        clear hK K
        try simp only [List.getElem_toArray, List.getElem_cons_zero, List.getElem_cons_succ, Act.put, List.setIfInBounds_toArray, List.set_cons_zero, List.set_cons_succ]
        obtain ⟨b8, hb8⟩ : ∃ z, wd.heap.size = z := ⟨_, rfl⟩
        obtain ⟨v44, hwk⟩ : ∃ z, (wd.alloc (.cells #[.int .u8 0, .string ⟨#[]⟩, .slice none 0 0, .slice none 0 0] 25)) = z := ⟨_, rfl⟩
        rw [hwk] at hHeld B8 q44 HN44a ⊢
        have HN44 := Lib.hid (And.intro HN44a hb8)
        rw [hb8] at B8 ⊢
        clear q44 HN44a hb8 hwk
        refine wpAnyH_ready (rs := [1, 4]) (by kernel_rfl) (by simp) ?_
        refine AllReadyH.cons (o := _) rfl (fun K hK => ?_) (AllReadyH.cons (o := _) rfl (fun K hK => ?_) AllReadyH.nil)
        · rw [if_pos (by kernel_rfl)]
          go_simp
          go_at_call 23
          (with_reducible refine (C23.out _ hHeld.2.2.2.2.out.1).mono ?_)
          rintro e v45 ⟨p3, a3, n3, c3, aa3, ac3, rfl, O1, q45⟩
          first | refine hK.out _ _ ?_ (fun hHeld => ?_) | (go_wp2_with fail; refine hK.out _ _ ?_ (fun hHeld => ?_))
          · exact ⟨cell_blk (blk_keep hHeld.2.2.2.2.out.2 q45) 0, cell_blk (blk_keep hHeld.2.2.2.2.out.2 q45) 1, cell_blk (blk_keep hHeld.2.2.2.2.out.2 q45) 2, cell_blk (blk_keep hHeld.2.2.2.2.out.2 q45) 3, Lib.hid ⟨(hHeld.2.2.2.2.out.1.trans (q45.mono hHeld.2.2.2.2.out.1.size)), (blk_keep hHeld.2.2.2.2.out.2 q45)⟩⟩
          clear hK K
          try simp only [List.getElem_toArray, List.getElem_cons_zero, List.getElem_cons_succ, Act.put, List.setIfInBounds_toArray, List.set_cons_zero, List.set_cons_succ]
          obtain ⟨L1, hL1⟩ : ∃ z, v44.heap.size = z := ⟨_, rfl⟩
          obtain ⟨H1, hH1⟩ : ∃ z, v45.heap.size = z := ⟨_, rfl⟩
          have HN45 := Lib.hid (And.intro q45.size (And.intro hL1 hH1))
          rw [hL1, hH1] at O1
          have B8 := Lib.hid (blk_keep B8.out q45)
          clear q45 hL1 hH1
          refine wpAnyH_ready (rs := [3, 4]) (by kernel_rfl) (by simp) ?_
          refine AllReadyH.cons (o := _) rfl (fun K hK => ?_) (AllReadyH.cons (o := _) rfl (fun K hK => ?_) AllReadyH.nil)
          · rw [if_pos (by kernel_rfl)]
            go_simp
            go_at_call 23
            (with_reducible refine (C23.out _ hHeld.2.2.2.2.out.1).mono ?_)
            rintro e v46 ⟨p4, a4, n4, c4, aa4, ac4, rfl, O2, q46⟩
            first | refine hK.out _ _ ?_ (fun hHeld => ?_) | (go_wp2_with fail; refine hK.out _ _ ?_ (fun hHeld => ?_))
            · exact ⟨cell_blk (blk_keep hHeld.2.2.2.2.out.2 q46) 0, cell_blk (blk_keep hHeld.2.2.2.2.out.2 q46) 1, cell_blk (blk_keep hHeld.2.2.2.2.out.2 q46) 2, cell_blk (blk_keep hHeld.2.2.2.2.out.2 q46) 3, Lib.hid ⟨(hHeld.2.2.2.2.out.1.trans (q46.mono hHeld.2.2.2.2.out.1.size)), (blk_keep hHeld.2.2.2.2.out.2 q46)⟩⟩
            clear hK K
            try simp only [List.getElem_toArray, List.getElem_cons_zero, List.getElem_cons_succ, Act.put, List.setIfInBounds_toArray, List.set_cons_zero, List.set_cons_succ]
            obtain ⟨L2, hL2⟩ : ∃ z, v45.heap.size = z := ⟨_, rfl⟩
            obtain ⟨H2, hH2⟩ : ∃ z, v46.heap.size = z := ⟨_, rfl⟩
            have HN46 := Lib.hid (And.intro q46.size (And.intro hL2 hH2))
            rw [hL2, hH2] at O2
            have B8 := Lib.hid (blk_keep B8.out q46)
            have O1 := Lib.hid (O1.out.below (by have := HS0.out; have := HN44.out; have := HN45.out; omega) q46)
            clear q46 hL2 hH2
            refine wpAnyH_ready (rs := [4]) (by kernel_rfl) (by simp) ?_
            refine AllReadyH.cons (o := _) rfl (fun K hK => ?_) AllReadyH.nil
            · rw [if_pos (by kernel_rfl)]
              go_simp
              have q47 : Below v46.heap.size v46 (v46.alloc (.cells #[.int .u8 0, .string ⟨#[]⟩, .slice none 0 0, .slice none 0 0] 25)) := (Below.refl _ v46).alloc (Nat.le_refl _) _
              have B7 : Hid ((v46.alloc (.cells #[.int .u8 0, .string ⟨#[]⟩, .slice none 0 0, .slice none 0 0] 25)).heap[v46.heap.size]? = some (.cells #[.int .u8 0, .string ⟨#[]⟩, .slice none 0 0, .slice none 0 0] 25 (0, 0))) := Lib.hid (al_new _ _)
              have HN47a : (v46.alloc (.cells #[.int .u8 0, .string ⟨#[]⟩, .slice none 0 0, .slice none 0 0] 25)).heap.size = v46.heap.size + 1 := by simp
              refine hK.out _ _ ?_ (fun hHeld => ?_)
              · exact ⟨cell_blk (blk_keep hHeld.2.2.2.2.out.2 q47) 0, cell_blk (blk_keep hHeld.2.2.2.2.out.2 q47) 1, cell_blk (blk_keep hHeld.2.2.2.2.out.2 q47) 2, cell_blk (blk_keep hHeld.2.2.2.2.out.2 q47) 3, Lib.hid ⟨(hHeld.2.2.2.2.out.1.trans (q47.mono hHeld.2.2.2.2.out.1.size)), (blk_keep hHeld.2.2.2.2.out.2 q47)⟩⟩
              clear hK K
              try simp only [List.getElem_toArray, List.getElem_cons_zero, List.getElem_cons_succ, Act.put, List.setIfInBounds_toArray, List.set_cons_zero, List.set_cons_succ]
              obtain ⟨b7, hb7⟩ : ∃ z, v46.heap.size = z := ⟨_, rfl⟩
              obtain ⟨v47, hwk⟩ : ∃ z, (v46.alloc (.cells #[.int .u8 0, .string ⟨#[]⟩, .slice none 0 0, .slice none 0 0] 25)) = z := ⟨_, rfl⟩
              rw [hwk] at hHeld B7 q47 HN47a ⊢
              have HN47 := Lib.hid (And.intro HN47a hb7)
              rw [hb7] at B7 ⊢
              have B8 := Lib.hid (blk_keep B8.out q47)
              have O1 := Lib.hid (O1.out.below (by have := HS0.out; have := HN44.out; have := HN45.out; have := HN46.out; omega) q47)
              have O2 := Lib.hid (O2.out.below (by have := HS0.out; have := HN44.out; have := HN45.out; have := HN46.out; omega) q47)
              clear q47 HN47a hb7 hwk
              refine wpAnyH_ready (rs := [6]) (by kernel_rfl) (by simp) ?_
              refine AllReadyH.cons (o := _) rfl (fun K hK => ?_) AllReadyH.nil
              · have HTV : Hid (Tv w v47 xb b7 b8 n p an aa nn nc ac F L1 H1 L2 H2 (.int .u8 p3.op) (.string p3.nm) (.slice a3 n3 c3) (.slice aa3 p3.k ac3) (.int .u8 p4.op) (.string p4.nm) (.slice a4 n4 c4) (.slice aa4 p4.k ac4)) := Lib.hid ⟨hHeld.2.2.2.2.out.1, hHeld.2.2.2.2.out.2, B7.out, O1.out, B8.out, O2.out, by have := HXL.out; have := HXW.out; have := HS0.out; have := HN44.out; have := HN45.out; have := HN46.out; have := HN47.out; omega⟩
                have HTW := Lib.hid HTV.out.put
                clear HTV
                have b78 : ¬ b7 = b8 := by have := HS0.out; have := HN44.out; have := HN45.out; have := HN46.out; have := HN47.out; omega
                have b87 : ¬ b8 = b7 := by have := HS0.out; have := HN44.out; have := HN45.out; have := HN46.out; have := HN47.out; omega
                rw [if_pos (by kernel_rfl)]
                have g0 := cell_blk B7.out 0
                have f0 := blk_free B7.out 0
                have g1 := cell_blk B7.out 1
                have f1 := blk_free B7.out 1
                have g2 := cell_blk B7.out 2
                have f2 := blk_free B7.out 2
                have g3 := cell_blk B7.out 3
                have f3 := blk_free B7.out 3
                go_simp
                refine hK.out _ _ ?_ (fun hHeld => ?_)
                · exact ⟨cell_blk ((put44_off v47 b7 (.int .u8 p3.op) (.string p3.nm) (.slice a3 n3 c3) (.slice aa3 p3.k ac3) (by have := (Array.getElem?_eq_some_iff.1 hHeld.2.2.2.2.out.2).1; have := HXW.out; have := HS0.out; have := HN44.out; have := HN45.out; have := HN46.out; have := HN47.out; omega)).trans hHeld.2.2.2.2.out.2) 0, cell_blk ((put44_off v47 b7 (.int .u8 p3.op) (.string p3.nm) (.slice a3 n3 c3) (.slice aa3 p3.k ac3) (by have := (Array.getElem?_eq_some_iff.1 hHeld.2.2.2.2.out.2).1; have := HXW.out; have := HS0.out; have := HN44.out; have := HN45.out; have := HN46.out; have := HN47.out; omega)).trans hHeld.2.2.2.2.out.2) 1, cell_blk ((put44_off v47 b7 (.int .u8 p3.op) (.string p3.nm) (.slice a3 n3 c3) (.slice aa3 p3.k ac3) (by have := (Array.getElem?_eq_some_iff.1 hHeld.2.2.2.2.out.2).1; have := HXW.out; have := HS0.out; have := HN44.out; have := HN45.out; have := HN46.out; have := HN47.out; omega)).trans hHeld.2.2.2.2.out.2) 2, cell_blk ((put44_off v47 b7 (.int .u8 p3.op) (.string p3.nm) (.slice a3 n3 c3) (.slice aa3 p3.k ac3) (by have := (Array.getElem?_eq_some_iff.1 hHeld.2.2.2.2.out.2).1; have := HXW.out; have := HS0.out; have := HN44.out; have := HN45.out; have := HN46.out; have := HN47.out; omega)).trans hHeld.2.2.2.2.out.2) 3, Lib.hid ⟨(put44_below (W := v47) hHeld.2.2.2.2.out.1 (by have := HXL.out; have := HXW.out; have := HS0.out; have := HN44.out; have := HN45.out; have := HN46.out; have := HN47.out; omega) (.int .u8 p3.op) (.string p3.nm) (.slice a3 n3 c3) (.slice aa3 p3.k ac3)), ((put44_off v47 b7 (.int .u8 p3.op) (.string p3.nm) (.slice a3 n3 c3) (.slice aa3 p3.k ac3) (by have := (Array.getElem?_eq_some_iff.1 hHeld.2.2.2.2.out.2).1; have := HXW.out; have := HS0.out; have := HN44.out; have := HN45.out; have := HN46.out; have := HN47.out; omega)).trans hHeld.2.2.2.2.out.2)⟩⟩
                clear hK K
                try simp only [List.getElem_toArray, List.getElem_cons_zero, List.getElem_cons_succ, Act.put, List.setIfInBounds_toArray, List.set_cons_zero, List.set_cons_succ]
                obtain ⟨v48, hwk⟩ : ∃ z, (put44 v47 b7 (.int .u8 p3.op) (.string p3.nm) (.slice a3 n3 c3) (.slice aa3 p3.k ac3)) = z := ⟨_, rfl⟩
                rw [show (((((v47).setCell ⟨b7, 0, none⟩ (.int .u8 p3.op)).setCell ⟨b7, 1, none⟩ (.string p3.nm)).setCell ⟨b7, 2, none⟩ (.slice a3 n3 c3)).setCell ⟨b7, 3, none⟩ (.slice aa3 p3.k ac3)) = v48 from hwk] at hHeld ⊢
                rw [hwk] at HTW
                have B8 := Lib.hid ((show v48.heap[b8]? = v47.heap[b8]? by rw [← hwk]; exact put44_off _ _ _ _ _ _ b87).trans B8.out)
                have HN48 : Hid (v48.heap.size = v47.heap.size) := Lib.hid (by rw [← hwk]; exact put44_size _ _ _ _ _ _)
                clear hwk g0 g1 g2 g3 f0 f1 f2 f3
                refine wpAnyH_ready (rs := [7]) (by kernel_rfl) (by simp) ?_
                refine AllReadyH.cons (o := _) rfl (fun K hK => ?_) AllReadyH.nil
                · rw [if_pos (by kernel_rfl)]
                  have g0 := cell_blk B8.out 0
                  have f0 := blk_free B8.out 0
                  have g1 := cell_blk B8.out 1
                  have f1 := blk_free B8.out 1
                  have g2 := cell_blk B8.out 2
                  have f2 := blk_free B8.out 2
                  have g3 := cell_blk B8.out 3
                  have f3 := blk_free B8.out 3
                  go_simp
                  refine hK.out _ _ ?_ (fun hHeld => ?_)
                  · exact ⟨cell_blk ((put44_off v48 b8 (.int .u8 p4.op) (.string p4.nm) (.slice a4 n4 c4) (.slice aa4 p4.k ac4) (by have := (Array.getElem?_eq_some_iff.1 hHeld.2.2.2.2.out.2).1; have := HXW.out; have := HS0.out; have := HN44.out; have := HN45.out; have := HN46.out; have := HN47.out; have := HN48.out; omega)).trans hHeld.2.2.2.2.out.2) 0, cell_blk ((put44_off v48 b8 (.int .u8 p4.op) (.string p4.nm) (.slice a4 n4 c4) (.slice aa4 p4.k ac4) (by have := (Array.getElem?_eq_some_iff.1 hHeld.2.2.2.2.out.2).1; have := HXW.out; have := HS0.out; have := HN44.out; have := HN45.out; have := HN46.out; have := HN47.out; have := HN48.out; omega)).trans hHeld.2.2.2.2.out.2) 1, cell_blk ((put44_off v48 b8 (.int .u8 p4.op) (.string p4.nm) (.slice a4 n4 c4) (.slice aa4 p4.k ac4) (by have := (Array.getElem?_eq_some_iff.1 hHeld.2.2.2.2.out.2).1; have := HXW.out; have := HS0.out; have := HN44.out; have := HN45.out; have := HN46.out; have := HN47.out; have := HN48.out; omega)).trans hHeld.2.2.2.2.out.2) 2, cell_blk ((put44_off v48 b8 (.int .u8 p4.op) (.string p4.nm) (.slice a4 n4 c4) (.slice aa4 p4.k ac4) (by have := (Array.getElem?_eq_some_iff.1 hHeld.2.2.2.2.out.2).1; have := HXW.out; have := HS0.out; have := HN44.out; have := HN45.out; have := HN46.out; have := HN47.out; have := HN48.out; omega)).trans hHeld.2.2.2.2.out.2) 3, Lib.hid ⟨(put44_below (W := v48) hHeld.2.2.2.2.out.1 (by have := HXL.out; have := HXW.out; have := HS0.out; have := HN44.out; have := HN45.out; have := HN46.out; have := HN47.out; have := HN48.out; omega) (.int .u8 p4.op) (.string p4.nm) (.slice a4 n4 c4) (.slice aa4 p4.k ac4)), ((put44_off v48 b8 (.int .u8 p4.op) (.string p4.nm) (.slice a4 n4 c4) (.slice aa4 p4.k ac4) (by have := (Array.getElem?_eq_some_iff.1 hHeld.2.2.2.2.out.2).1; have := HXW.out; have := HS0.out; have := HN44.out; have := HN45.out; have := HN46.out; have := HN47.out; have := HN48.out; omega)).trans hHeld.2.2.2.2.out.2)⟩⟩
                  clear hK K
                  try simp only [List.getElem_toArray, List.getElem_cons_zero, List.getElem_cons_succ, Act.put, List.setIfInBounds_toArray, List.set_cons_zero, List.set_cons_succ]
                  obtain ⟨v49, hwk⟩ : ∃ z, (put44 v48 b8 (.int .u8 p4.op) (.string p4.nm) (.slice a4 n4 c4) (.slice aa4 p4.k ac4)) = z := ⟨_, rfl⟩
                  rw [show (((((v48).setCell ⟨b8, 0, none⟩ (.int .u8 p4.op)).setCell ⟨b8, 1, none⟩ (.string p4.nm)).setCell ⟨b8, 2, none⟩ (.slice a4 n4 c4)).setCell ⟨b8, 3, none⟩ (.slice aa4 p4.k ac4)) = v49 from hwk] at hHeld ⊢
                  rw [hwk] at HTW
                  have HN49 := HXW
                  clear hwk g0 g1 g2 g3 f0 f1 f2 f3
                  refine wpAnyH_done (by kernel_rfl) ?_ _
                  go_wp2_with fail
                  go_meet
                  case rel =>
                    exact ⟨b7, b8, rfl, rfl, Lib.hid ⟨L1, H1, L2, H2, _, _, _, _, _, _, _, _, HTW.out⟩⟩
          · rw [if_pos (by kernel_rfl)]
            go_simp
            have q50 : Below v45.heap.size v45 (v45.alloc (.cells #[.int .u8 0, .string ⟨#[]⟩, .slice none 0 0, .slice none 0 0] 25)) := (Below.refl _ v45).alloc (Nat.le_refl _) _
            have B7 : Hid ((v45.alloc (.cells #[.int .u8 0, .string ⟨#[]⟩, .slice none 0 0, .slice none 0 0] 25)).heap[v45.heap.size]? = some (.cells #[.int .u8 0, .string ⟨#[]⟩, .slice none 0 0, .slice none 0 0] 25 (0, 0))) := Lib.hid (al_new _ _)
            have HN50a : (v45.alloc (.cells #[.int .u8 0, .string ⟨#[]⟩, .slice none 0 0, .slice none 0 0] 25)).heap.size = v45.heap.size + 1 := by simp
            refine hK.out _ _ ?_ (fun hHeld => ?_)
            · exact ⟨cell_blk (blk_keep hHeld.2.2.2.2.out.2 q50) 0, cell_blk (blk_keep hHeld.2.2.2.2.out.2 q50) 1, cell_blk (blk_keep hHeld.2.2.2.2.out.2 q50) 2, cell_blk (blk_keep hHeld.2.2.2.2.out.2 q50) 3, Lib.hid ⟨(hHeld.2.2.2.2.out.1.trans (q50.mono hHeld.2.2.2.2.out.1.size)), (blk_keep hHeld.2.2.2.2.out.2 q50)⟩⟩
            clear hK K
            try simp only [List.getElem_toArray, List.getElem_cons_zero, List.getElem_cons_succ, Act.put, List.setIfInBounds_toArray, List.set_cons_zero, List.set_cons_succ]
            obtain ⟨b7, hb7⟩ : ∃ z, v45.heap.size = z := ⟨_, rfl⟩
            obtain ⟨v50, hwk⟩ : ∃ z, (v45.alloc (.cells #[.int .u8 0, .string ⟨#[]⟩, .slice none 0 0, .slice none 0 0] 25)) = z := ⟨_, rfl⟩
            rw [hwk] at hHeld B7 q50 HN50a ⊢
            have HN50 := Lib.hid (And.intro HN50a hb7)
            rw [hb7] at B7 ⊢
            have B8 := Lib.hid (blk_keep B8.out q50)
            have O1 := Lib.hid (O1.out.below (by have := HS0.out; have := HN44.out; have := HN45.out; omega) q50)
            clear q50 HN50a hb7 hwk
            refine wpAnyH_ready (rs := [3]) (by kernel_rfl) (by simp) ?_
            refine AllReadyH.cons (o := _) rfl (fun K hK => ?_) AllReadyH.nil
            · rw [if_pos (by kernel_rfl)]
              go_simp
              go_at_call 23
              (with_reducible refine (C23.out _ hHeld.2.2.2.2.out.1).mono ?_)
              rintro e v51 ⟨p4, a4, n4, c4, aa4, ac4, rfl, O2, q51⟩
              first | refine hK.out _ _ ?_ (fun hHeld => ?_) | (go_wp2_with fail; refine hK.out _ _ ?_ (fun hHeld => ?_))
              · exact ⟨cell_blk (blk_keep hHeld.2.2.2.2.out.2 q51) 0, cell_blk (blk_keep hHeld.2.2.2.2.out.2 q51) 1, cell_blk (blk_keep hHeld.2.2.2.2.out.2 q51) 2, cell_blk (blk_keep hHeld.2.2.2.2.out.2 q51) 3, Lib.hid ⟨(hHeld.2.2.2.2.out.1.trans (q51.mono hHeld.2.2.2.2.out.1.size)), (blk_keep hHeld.2.2.2.2.out.2 q51)⟩⟩
              clear hK K
              try simp only [List.getElem_toArray, List.getElem_cons_zero, List.getElem_cons_succ, Act.put, List.setIfInBounds_toArray, List.set_cons_zero, List.set_cons_succ]
              obtain ⟨L2, hL2⟩ : ∃ z, v50.heap.size = z := ⟨_, rfl⟩
              obtain ⟨H2, hH2⟩ : ∃ z, v51.heap.size = z := ⟨_, rfl⟩
              have HN51 := Lib.hid (And.intro q51.size (And.intro hL2 hH2))
              rw [hL2, hH2] at O2
              have B7 := Lib.hid (blk_keep B7.out q51)
              have B8 := Lib.hid (blk_keep B8.out q51)
              have O1 := Lib.hid (O1.out.below (by have := HS0.out; have := HN44.out; have := HN45.out; have := HN50.out; omega) q51)
              clear q51 hL2 hH2
              refine wpAnyH_ready (rs := [6]) (by kernel_rfl) (by simp) ?_
              refine AllReadyH.cons (o := _) rfl (fun K hK => ?_) AllReadyH.nil
              · have HTV : Hid (Tv w v51 xb b7 b8 n p an aa nn nc ac F L1 H1 L2 H2 (.int .u8 p3.op) (.string p3.nm) (.slice a3 n3 c3) (.slice aa3 p3.k ac3) (.int .u8 p4.op) (.string p4.nm) (.slice a4 n4 c4) (.slice aa4 p4.k ac4)) := Lib.hid ⟨hHeld.2.2.2.2.out.1, hHeld.2.2.2.2.out.2, B7.out, O1.out, B8.out, O2.out, by have := HXL.out; have := HXW.out; have := HS0.out; have := HN44.out; have := HN45.out; have := HN50.out; have := HN51.out; omega⟩
                have HTW := Lib.hid HTV.out.put
                clear HTV
                have b78 : ¬ b7 = b8 := by have := HS0.out; have := HN44.out; have := HN45.out; have := HN50.out; have := HN51.out; omega
                have b87 : ¬ b8 = b7 := by have := HS0.out; have := HN44.out; have := HN45.out; have := HN50.out; have := HN51.out; omega
                rw [if_pos (by kernel_rfl)]
                have g0 := cell_blk B7.out 0
                have f0 := blk_free B7.out 0
                have g1 := cell_blk B7.out 1
                have f1 := blk_free B7.out 1
                have g2 := cell_blk B7.out 2
                have f2 := blk_free B7.out 2
                have g3 := cell_blk B7.out 3
                have f3 := blk_free B7.out 3
                go_simp
                refine hK.out _ _ ?_ (fun hHeld => ?_)
                · exact ⟨cell_blk ((put44_off v51 b7 (.int .u8 p3.op) (.string p3.nm) (.slice a3 n3 c3) (.slice aa3 p3.k ac3) (by have := (Array.getElem?_eq_some_iff.1 hHeld.2.2.2.2.out.2).1; have := HXW.out; have := HS0.out; have := HN44.out; have := HN45.out; have := HN50.out; have := HN51.out; omega)).trans hHeld.2.2.2.2.out.2) 0, cell_blk ((put44_off v51 b7 (.int .u8 p3.op) (.string p3.nm) (.slice a3 n3 c3) (.slice aa3 p3.k ac3) (by have := (Array.getElem?_eq_some_iff.1 hHeld.2.2.2.2.out.2).1; have := HXW.out; have := HS0.out; have := HN44.out; have := HN45.out; have := HN50.out; have := HN51.out; omega)).trans hHeld.2.2.2.2.out.2) 1, cell_blk ((put44_off v51 b7 (.int .u8 p3.op) (.string p3.nm) (.slice a3 n3 c3) (.slice aa3 p3.k ac3) (by have := (Array.getElem?_eq_some_iff.1 hHeld.2.2.2.2.out.2).1; have := HXW.out; have := HS0.out; have := HN44.out; have := HN45.out; have := HN50.out; have := HN51.out; omega)).trans hHeld.2.2.2.2.out.2) 2, cell_blk ((put44_off v51 b7 (.int .u8 p3.op) (.string p3.nm) (.slice a3 n3 c3) (.slice aa3 p3.k ac3) (by have := (Array.getElem?_eq_some_iff.1 hHeld.2.2.2.2.out.2).1; have := HXW.out; have := HS0.out; have := HN44.out; have := HN45.out; have := HN50.out; have := HN51.out; omega)).trans hHeld.2.2.2.2.out.2) 3, Lib.hid ⟨(put44_below (W := v51) hHeld.2.2.2.2.out.1 (by have := HXL.out; have := HXW.out; have := HS0.out; have := HN44.out; have := HN45.out; have := HN50.out; have := HN51.out; omega) (.int .u8 p3.op) (.string p3.nm) (.slice a3 n3 c3) (.slice aa3 p3.k ac3)), ((put44_off v51 b7 (.int .u8 p3.op) (.string p3.nm) (.slice a3 n3 c3) (.slice aa3 p3.k ac3) (by have := (Array.getElem?_eq_some_iff.1 hHeld.2.2.2.2.out.2).1; have := HXW.out; have := HS0.out; have := HN44.out; have := HN45.out; have := HN50.out; have := HN51.out; omega)).trans hHeld.2.2.2.2.out.2)⟩⟩
                clear hK K
                try simp only [List.getElem_toArray, List.getElem_cons_zero, List.getElem_cons_succ, Act.put, List.setIfInBounds_toArray, List.set_cons_zero, List.set_cons_succ]
                obtain ⟨v52, hwk⟩ : ∃ z, (put44 v51 b7 (.int .u8 p3.op) (.string p3.nm) (.slice a3 n3 c3) (.slice aa3 p3.k ac3)) = z := ⟨_, rfl⟩
                rw [show (((((v51).setCell ⟨b7, 0, none⟩ (.int .u8 p3.op)).setCell ⟨b7, 1, none⟩ (.string p3.nm)).setCell ⟨b7, 2, none⟩ (.slice a3 n3 c3)).setCell ⟨b7, 3, none⟩ (.slice aa3 p3.k ac3)) = v52 from hwk] at hHeld ⊢
                rw [hwk] at HTW
                have B8 := Lib.hid ((show v52.heap[b8]? = v51.heap[b8]? by rw [← hwk]; exact put44_off _ _ _ _ _ _ b87).trans B8.out)
                have HN52 : Hid (v52.heap.size = v51.heap.size) := Lib.hid (by rw [← hwk]; exact put44_size _ _ _ _ _ _)
                clear hwk g0 g1 g2 g3 f0 f1 f2 f3
                refine wpAnyH_ready (rs := [7]) (by kernel_rfl) (by simp) ?_
                refine AllReadyH.cons (o := _) rfl (fun K hK => ?_) AllReadyH.nil
                · rw [if_pos (by kernel_rfl)]
                  have g0 := cell_blk B8.out 0
                  have f0 := blk_free B8.out 0
                  have g1 := cell_blk B8.out 1
                  have f1 := blk_free B8.out 1
                  have g2 := cell_blk B8.out 2
                  have f2 := blk_free B8.out 2
                  have g3 := cell_blk B8.out 3
                  have f3 := blk_free B8.out 3
                  go_simp
                  refine hK.out _ _ ?_ (fun hHeld => ?_)
                  · exact ⟨cell_blk ((put44_off v52 b8 (.int .u8 p4.op) (.string p4.nm) (.slice a4 n4 c4) (.slice aa4 p4.k ac4) (by have := (Array.getElem?_eq_some_iff.1 hHeld.2.2.2.2.out.2).1; have := HXW.out; have := HS0.out; have := HN44.out; have := HN45.out; have := HN50.out; have := HN51.out; have := HN52.out; omega)).trans hHeld.2.2.2.2.out.2) 0, cell_blk ((put44_off v52 b8 (.int .u8 p4.op) (.string p4.nm) (.slice a4 n4 c4) (.slice aa4 p4.k ac4) (by have := (Array.getElem?_eq_some_iff.1 hHeld.2.2.2.2.out.2).1; have := HXW.out; have := HS0.out; have := HN44.out; have := HN45.out; have := HN50.out; have := HN51.out; have := HN52.out; omega)).trans hHeld.2.2.2.2.out.2) 1, cell_blk ((put44_off v52 b8 (.int .u8 p4.op) (.string p4.nm) (.slice a4 n4 c4) (.slice aa4 p4.k ac4) (by have := (Array.getElem?_eq_some_iff.1 hHeld.2.2.2.2.out.2).1; have := HXW.out; have := HS0.out; have := HN44.out; have := HN45.out; have := HN50.out; have := HN51.out; have := HN52.out; omega)).trans hHeld.2.2.2.2.out.2) 2, cell_blk ((put44_off v52 b8 (.int .u8 p4.op) (.string p4.nm) (.slice a4 n4 c4) (.slice aa4 p4.k ac4) (by have := (Array.getElem?_eq_some_iff.1 hHeld.2.2.2.2.out.2).1; have := HXW.out; have := HS0.out; have := HN44.out; have := HN45.out; have := HN50.out; have := HN51.out; have := HN52.out; omega)).trans hHeld.2.2.2.2.out.2) 3, Lib.hid ⟨(put44_below (W := v52) hHeld.2.2.2.2.out.1 (by have := HXL.out; have := HXW.out; have := HS0.out; have := HN44.out; have := HN45.out; have := HN50.out; have := HN51.out; have := HN52.out; omega) (.int .u8 p4.op) (.string p4.nm) (.slice a4 n4 c4) (.slice aa4 p4.k ac4)), ((put44_off v52 b8 (.int .u8 p4.op) (.string p4.nm) (.slice a4 n4 c4) (.slice aa4 p4.k ac4) (by have := (Array.getElem?_eq_some_iff.1 hHeld.2.2.2.2.out.2).1; have := HXW.out; have := HS0.out; have := HN44.out; have := HN45.out; have := HN50.out; have := HN51.out; have := HN52.out; omega)).trans hHeld.2.2.2.2.out.2)⟩⟩
                  clear hK K
                  try simp only [List.getElem_toArray, List.getElem_cons_zero, List.getElem_cons_succ, Act.put, List.setIfInBounds_toArray, List.set_cons_zero, List.set_cons_succ]
                  obtain ⟨v53, hwk⟩ : ∃ z, (put44 v52 b8 (.int .u8 p4.op) (.string p4.nm) (.slice a4 n4 c4) (.slice aa4 p4.k ac4)) = z := ⟨_, rfl⟩
                  rw [show (((((v52).setCell ⟨b8, 0, none⟩ (.int .u8 p4.op)).setCell ⟨b8, 1, none⟩ (.string p4.nm)).setCell ⟨b8, 2, none⟩ (.slice a4 n4 c4)).setCell ⟨b8, 3, none⟩ (.slice aa4 p4.k ac4)) = v53 from hwk] at hHeld ⊢
                  rw [hwk] at HTW
                  have HN53 := HXW
                  clear hwk g0 g1 g2 g3 f0 f1 f2 f3
                  refine wpAnyH_done (by kernel_rfl) ?_ _
                  go_wp2_with fail
                  go_meet
                  case rel =>
                    exact ⟨b7, b8, rfl, rfl, Lib.hid ⟨L1, H1, L2, H2, _, _, _, _, _, _, _, _, HTW.out⟩⟩
        · rw [if_pos (by kernel_rfl)]
          go_simp
          have q54 : Below v44.heap.size v44 (v44.alloc (.cells #[.int .u8 0, .string ⟨#[]⟩, .slice none 0 0, .slice none 0 0] 25)) := (Below.refl _ v44).alloc (Nat.le_refl _) _
          have B7 : Hid ((v44.alloc (.cells #[.int .u8 0, .string ⟨#[]⟩, .slice none 0 0, .slice none 0 0] 25)).heap[v44.heap.size]? = some (.cells #[.int .u8 0, .string ⟨#[]⟩, .slice none 0 0, .slice none 0 0] 25 (0, 0))) := Lib.hid (al_new _ _)
          have HN54a : (v44.alloc (.cells #[.int .u8 0, .string ⟨#[]⟩, .slice none 0 0, .slice none 0 0] 25)).heap.size = v44.heap.size + 1 := by simp
          refine hK.out _ _ ?_ (fun hHeld => ?_)
          · exact ⟨cell_blk (blk_keep hHeld.2.2.2.2.out.2 q54) 0, cell_blk (blk_keep hHeld.2.2.2.2.out.2 q54) 1, cell_blk (blk_keep hHeld.2.2.2.2.out.2 q54) 2, cell_blk (blk_keep hHeld.2.2.2.2.out.2 q54) 3, Lib.hid ⟨(hHeld.2.2.2.2.out.1.trans (q54.mono hHeld.2.2.2.2.out.1.size)), (blk_keep hHeld.2.2.2.2.out.2 q54)⟩⟩
          clear hK K
          try simp only [List.getElem_toArray, List.getElem_cons_zero, List.getElem_cons_succ, Act.put, List.setIfInBounds_toArray, List.set_cons_zero, List.set_cons_succ]
          obtain ⟨b7, hb7⟩ : ∃ z, v44.heap.size = z := ⟨_, rfl⟩
          obtain ⟨v54, hwk⟩ : ∃ z, (v44.alloc (.cells #[.int .u8 0, .string ⟨#[]⟩, .slice none 0 0, .slice none 0 0] 25)) = z := ⟨_, rfl⟩
          rw [hwk] at hHeld B7 q54 HN54a ⊢
          have HN54 := Lib.hid (And.intro HN54a hb7)
          rw [hb7] at B7 ⊢
          have B8 := Lib.hid (blk_keep B8.out q54)
          clear q54 HN54a hb7 hwk
          refine wpAnyH_ready (rs := [1]) (by kernel_rfl) (by simp) ?_
          refine AllReadyH.cons (o := _) rfl (fun K hK => ?_) AllReadyH.nil
          · rw [if_pos (by kernel_rfl)]
            go_simp
            go_at_call 23
            (with_reducible refine (C23.out _ hHeld.2.2.2.2.out.1).mono ?_)
            rintro e v55 ⟨p3, a3, n3, c3, aa3, ac3, rfl, O1, q55⟩
            first | refine hK.out _ _ ?_ (fun hHeld => ?_) | (go_wp2_with fail; refine hK.out _ _ ?_ (fun hHeld => ?_))
            · exact ⟨cell_blk (blk_keep hHeld.2.2.2.2.out.2 q55) 0, cell_blk (blk_keep hHeld.2.2.2.2.out.2 q55) 1, cell_blk (blk_keep hHeld.2.2.2.2.out.2 q55) 2, cell_blk (blk_keep hHeld.2.2.2.2.out.2 q55) 3, Lib.hid ⟨(hHeld.2.2.2.2.out.1.trans (q55.mono hHeld.2.2.2.2.out.1.size)), (blk_keep hHeld.2.2.2.2.out.2 q55)⟩⟩
            clear hK K
            try simp only [List.getElem_toArray, List.getElem_cons_zero, List.getElem_cons_succ, Act.put, List.setIfInBounds_toArray, List.set_cons_zero, List.set_cons_succ]
            obtain ⟨L1, hL1⟩ : ∃ z, v54.heap.size = z := ⟨_, rfl⟩
            obtain ⟨H1, hH1⟩ : ∃ z, v55.heap.size = z := ⟨_, rfl⟩
            have HN55 := Lib.hid (And.intro q55.size (And.intro hL1 hH1))
            rw [hL1, hH1] at O1
            have B7 := Lib.hid (blk_keep B7.out q55)
            have B8 := Lib.hid (blk_keep B8.out q55)
            clear q55 hL1 hH1
            refine wpAnyH_ready (rs := [3]) (by kernel_rfl) (by simp) ?_
            refine AllReadyH.cons (o := _) rfl (fun K hK => ?_) AllReadyH.nil
            · rw [if_pos (by kernel_rfl)]
              go_simp
              go_at_call 23
              (with_reducible refine (C23.out _ hHeld.2.2.2.2.out.1).mono ?_)
              rintro e v56 ⟨p4, a4, n4, c4, aa4, ac4, rfl, O2, q56⟩
              first | refine hK.out _ _ ?_ (fun hHeld => ?_) | (go_wp2_with fail; refine hK.out _ _ ?_ (fun hHeld => ?_))
              · exact ⟨cell_blk (blk_keep hHeld.2.2.2.2.out.2 q56) 0, cell_blk (blk_keep hHeld.2.2.2.2.out.2 q56) 1, cell_blk (blk_keep hHeld.2.2.2.2.out.2 q56) 2, cell_blk (blk_keep hHeld.2.2.2.2.out.2 q56) 3, Lib.hid ⟨(hHeld.2.2.2.2.out.1.trans (q56.mono hHeld.2.2.2.2.out.1.size)), (blk_keep hHeld.2.2.2.2.out.2 q56)⟩⟩
              clear hK K
              try simp only [List.getElem_toArray, List.getElem_cons_zero, List.getElem_cons_succ, Act.put, List.setIfInBounds_toArray, List.set_cons_zero, List.set_cons_succ]
              obtain ⟨L2, hL2⟩ : ∃ z, v55.heap.size = z := ⟨_, rfl⟩
              obtain ⟨H2, hH2⟩ : ∃ z, v56.heap.size = z := ⟨_, rfl⟩
              have HN56 := Lib.hid (And.intro q56.size (And.intro hL2 hH2))
              rw [hL2, hH2] at O2
              have B7 := Lib.hid (blk_keep B7.out q56)
              have B8 := Lib.hid (blk_keep B8.out q56)
              have O1 := Lib.hid (O1.out.below (by have := HS0.out; have := HN44.out; have := HN54.out; have := HN55.out; omega) q56)
              clear q56 hL2 hH2
              refine wpAnyH_ready (rs := [6]) (by kernel_rfl) (by simp) ?_
              refine AllReadyH.cons (o := _) rfl (fun K hK => ?_) AllReadyH.nil
              · have HTV : Hid (Tv w v56 xb b7 b8 n p an aa nn nc ac F L1 H1 L2 H2 (.int .u8 p3.op) (.string p3.nm) (.slice a3 n3 c3) (.slice aa3 p3.k ac3) (.int .u8 p4.op) (.string p4.nm) (.slice a4 n4 c4) (.slice aa4 p4.k ac4)) := Lib.hid ⟨hHeld.2.2.2.2.out.1, hHeld.2.2.2.2.out.2, B7.out, O1.out, B8.out, O2.out, by have := HXL.out; have := HXW.out; have := HS0.out; have := HN44.out; have := HN54.out; have := HN55.out; have := HN56.out; omega⟩
                have HTW := Lib.hid HTV.out.put
                clear HTV
                have b78 : ¬ b7 = b8 := by have := HS0.out; have := HN44.out; have := HN54.out; have := HN55.out; have := HN56.out; omega
                have b87 : ¬ b8 = b7 := by have := HS0.out; have := HN44.out; have := HN54.out; have := HN55.out; have := HN56.out; omega
                rw [if_pos (by kernel_rfl)]
                have g0 := cell_blk B7.out 0
                have f0 := blk_free B7.out 0
                have g1 := cell_blk B7.out 1
                have f1 := blk_free B7.out 1
                have g2 := cell_blk B7.out 2
                have f2 := blk_free B7.out 2
                have g3 := cell_blk B7.out 3
                have f3 := blk_free B7.out 3
                go_simp
                refine hK.out _ _ ?_ (fun hHeld => ?_)
                · exact ⟨cell_blk ((put44_off v56 b7 (.int .u8 p3.op) (.string p3.nm) (.slice a3 n3 c3) (.slice aa3 p3.k ac3) (by have := (Array.getElem?_eq_some_iff.1 hHeld.2.2.2.2.out.2).1; have := HXW.out; have := HS0.out; have := HN44.out; have := HN54.out; have := HN55.out; have := HN56.out; omega)).trans hHeld.2.2.2.2.out.2) 0, cell_blk ((put44_off v56 b7 (.int .u8 p3.op) (.string p3.nm) (.slice a3 n3 c3) (.slice aa3 p3.k ac3) (by have := (Array.getElem?_eq_some_iff.1 hHeld.2.2.2.2.out.2).1; have := HXW.out; have := HS0.out; have := HN44.out; have := HN54.out; have := HN55.out; have := HN56.out; omega)).trans hHeld.2.2.2.2.out.2) 1, cell_blk ((put44_off v56 b7 (.int .u8 p3.op) (.string p3.nm) (.slice a3 n3 c3) (.slice aa3 p3.k ac3) (by have := (Array.getElem?_eq_some_iff.1 hHeld.2.2.2.2.out.2).1; have := HXW.out; have := HS0.out; have := HN44.out; have := HN54.out; have := HN55.out; have := HN56.out; omega)).trans hHeld.2.2.2.2.out.2) 2, cell_blk ((put44_off v56 b7 (.int .u8 p3.op) (.string p3.nm) (.slice a3 n3 c3) (.slice aa3 p3.k ac3) (by have := (Array.getElem?_eq_some_iff.1 hHeld.2.2.2.2.out.2).1; have := HXW.out; have := HS0.out; have := HN44.out; have := HN54.out; have := HN55.out; have := HN56.out; omega)).trans hHeld.2.2.2.2.out.2) 3, Lib.hid ⟨(put44_below (W := v56) hHeld.2.2.2.2.out.1 (by have := HXL.out; have := HXW.out; have := HS0.out; have := HN44.out; have := HN54.out; have := HN55.out; have := HN56.out; omega) (.int .u8 p3.op) (.string p3.nm) (.slice a3 n3 c3) (.slice aa3 p3.k ac3)), ((put44_off v56 b7 (.int .u8 p3.op) (.string p3.nm) (.slice a3 n3 c3) (.slice aa3 p3.k ac3) (by have := (Array.getElem?_eq_some_iff.1 hHeld.2.2.2.2.out.2).1; have := HXW.out; have := HS0.out; have := HN44.out; have := HN54.out; have := HN55.out; have := HN56.out; omega)).trans hHeld.2.2.2.2.out.2)⟩⟩
                clear hK K
                try simp only [List.getElem_toArray, List.getElem_cons_zero, List.getElem_cons_succ, Act.put, List.setIfInBounds_toArray, List.set_cons_zero, List.set_cons_succ]
                obtain ⟨v57, hwk⟩ : ∃ z, (put44 v56 b7 (.int .u8 p3.op) (.string p3.nm) (.slice a3 n3 c3) (.slice aa3 p3.k ac3)) = z := ⟨_, rfl⟩
                rw [show (((((v56).setCell ⟨b7, 0, none⟩ (.int .u8 p3.op)).setCell ⟨b7, 1, none⟩ (.string p3.nm)).setCell ⟨b7, 2, none⟩ (.slice a3 n3 c3)).setCell ⟨b7, 3, none⟩ (.slice aa3 p3.k ac3)) = v57 from hwk] at hHeld ⊢
                rw [hwk] at HTW
                have B8 := Lib.hid ((show v57.heap[b8]? = v56.heap[b8]? by rw [← hwk]; exact put44_off _ _ _ _ _ _ b87).trans B8.out)
                have HN57 : Hid (v57.heap.size = v56.heap.size) := Lib.hid (by rw [← hwk]; exact put44_size _ _ _ _ _ _)
                clear hwk g0 g1 g2 g3 f0 f1 f2 f3
                refine wpAnyH_ready (rs := [7]) (by kernel_rfl) (by simp) ?_
                refine AllReadyH.cons (o := _) rfl (fun K hK => ?_) AllReadyH.nil
                · rw [if_pos (by kernel_rfl)]
                  have g0 := cell_blk B8.out 0
                  have f0 := blk_free B8.out 0
                  have g1 := cell_blk B8.out 1
                  have f1 := blk_free B8.out 1
                  have g2 := cell_blk B8.out 2
                  have f2 := blk_free B8.out 2
                  have g3 := cell_blk B8.out 3
                  have f3 := blk_free B8.out 3
                  go_simp
                  refine hK.out _ _ ?_ (fun hHeld => ?_)
                  · exact ⟨cell_blk ((put44_off v57 b8 (.int .u8 p4.op) (.string p4.nm) (.slice a4 n4 c4) (.slice aa4 p4.k ac4) (by have := (Array.getElem?_eq_some_iff.1 hHeld.2.2.2.2.out.2).1; have := HXW.out; have := HS0.out; have := HN44.out; have := HN54.out; have := HN55.out; have := HN56.out; have := HN57.out; omega)).trans hHeld.2.2.2.2.out.2) 0, cell_blk ((put44_off v57 b8 (.int .u8 p4.op) (.string p4.nm) (.slice a4 n4 c4) (.slice aa4 p4.k ac4) (by have := (Array.getElem?_eq_some_iff.1 hHeld.2.2.2.2.out.2).1; have := HXW.out; have := HS0.out; have := HN44.out; have := HN54.out; have := HN55.out; have := HN56.out; have := HN57.out; omega)).trans hHeld.2.2.2.2.out.2) 1, cell_blk ((put44_off v57 b8 (.int .u8 p4.op) (.string p4.nm) (.slice a4 n4 c4) (.slice aa4 p4.k ac4) (by have := (Array.getElem?_eq_some_iff.1 hHeld.2.2.2.2.out.2).1; have := HXW.out; have := HS0.out; have := HN44.out; have := HN54.out; have := HN55.out; have := HN56.out; have := HN57.out; omega)).trans hHeld.2.2.2.2.out.2) 2, cell_blk ((put44_off v57 b8 (.int .u8 p4.op) (.string p4.nm) (.slice a4 n4 c4) (.slice aa4 p4.k ac4) (by have := (Array.getElem?_eq_some_iff.1 hHeld.2.2.2.2.out.2).1; have := HXW.out; have := HS0.out; have := HN44.out; have := HN54.out; have := HN55.out; have := HN56.out; have := HN57.out; omega)).trans hHeld.2.2.2.2.out.2) 3, Lib.hid ⟨(put44_below (W := v57) hHeld.2.2.2.2.out.1 (by have := HXL.out; have := HXW.out; have := HS0.out; have := HN44.out; have := HN54.out; have := HN55.out; have := HN56.out; have := HN57.out; omega) (.int .u8 p4.op) (.string p4.nm) (.slice a4 n4 c4) (.slice aa4 p4.k ac4)), ((put44_off v57 b8 (.int .u8 p4.op) (.string p4.nm) (.slice a4 n4 c4) (.slice aa4 p4.k ac4) (by have := (Array.getElem?_eq_some_iff.1 hHeld.2.2.2.2.out.2).1; have := HXW.out; have := HS0.out; have := HN44.out; have := HN54.out; have := HN55.out; have := HN56.out; have := HN57.out; omega)).trans hHeld.2.2.2.2.out.2)⟩⟩
                  clear hK K
                  try simp only [List.getElem_toArray, List.getElem_cons_zero, List.getElem_cons_succ, Act.put, List.setIfInBounds_toArray, List.set_cons_zero, List.set_cons_succ]
                  obtain ⟨v58, hwk⟩ : ∃ z, (put44 v57 b8 (.int .u8 p4.op) (.string p4.nm) (.slice a4 n4 c4) (.slice aa4 p4.k ac4)) = z := ⟨_, rfl⟩
                  rw [show (((((v57).setCell ⟨b8, 0, none⟩ (.int .u8 p4.op)).setCell ⟨b8, 1, none⟩ (.string p4.nm)).setCell ⟨b8, 2, none⟩ (.slice a4 n4 c4)).setCell ⟨b8, 3, none⟩ (.slice aa4 p4.k ac4)) = v58 from hwk] at hHeld ⊢
                  rw [hwk] at HTW
                  have HN58 := HXW
                  clear hwk g0 g1 g2 g3 f0 f1 f2 f3
                  refine wpAnyH_done (by kernel_rfl) ?_ _
                  go_wp2_with fail
                  go_meet
                  case rel =>
                    exact ⟨b7, b8, rfl, rfl, Lib.hid ⟨L1, H1, L2, H2, _, _, _, _, _, _, _, _, HTW.out⟩⟩
    case rest =>
      obtain ⟨b7, b8, rfl, rfl, HTW⟩ := hcut
      obtain ⟨L, H, L2, H2, x0, x1, x2, x3, z0, z1, z2, z3, htw⟩ := HTW.out
      obtain ⟨p3, a3, n3, c3, aa3, ac3, e3⟩ := own_head htw.ey
      obtain ⟨p4, a4, n4, c4, aa4, ac4, e4⟩ := own_head htw.ek
      obtain ⟨rfl, rfl, rfl, rfl⟩ := agg_inj e3
      obtain ⟨rfl, rfl, rfl, rfl⟩ := agg_inj e4
      have HTW := Lib.hid htw
      clear KA XA htw e3 e4
      have HFX := Lib.hid hF
      have HTB := Lib.hid hT
      have HNN : Hid (n ≤ 4611686018427387000 ∧ (F 1).length ≤ 1000000000000) := Lib.hid ⟨by omega, by omega⟩
      have HSM := Lib.hid sF
      have HKL := Lib.hid hK
      have k0 : (0 : Int) ≤ (kn : Int) := by omega
      have k1 : (kn : Int) ≤ 9223372036854775807 := by have := hK.le; have := hK.top; omega
      clear hK hF hT sF
      have HNM : Hid ((F 1).length ≤ 2097152) := Lib.hid (by omega)
      go_upto_region 4 with fail
      go_cut [45] from 20 to 45 (fun s45 wx => s45 = .bool false ∧ Hid (Tw w wx xb b7 b8 n p an aa nn nc ac F L H L2 H2 (.int .u8 p3.op) (.string p3.nm) (.slice a3 n3 c3) (.slice aa3 p3.k ac3) (.int .u8 p4.op) (.string p4.nm) (.slice a4 n4 c4) (.slice aa4 p4.k ac4)))
      case first =>
        refine wp_region_held_drew (S := (fun W => W.cell? ⟨xb, 0, none⟩ = some (.int .u8 p.op) ∧ W.cell? ⟨xb, 1, none⟩ = some (.string p.nm) ∧ W.cell? ⟨xb, 2, none⟩ = some (.slice an nn nc) ∧ W.cell? ⟨xb, 3, none⟩ = some (.slice aa p.k ac) ∧ W.cell? ⟨b7, 0, none⟩ = some (.int .u8 p3.op) ∧ W.cell? ⟨b7, 1, none⟩ = some (.string p3.nm) ∧ W.cell? ⟨b7, 2, none⟩ = some (.slice a3 n3 c3) ∧ W.cell? ⟨b7, 3, none⟩ = some (.slice aa3 p3.k ac3) ∧ Hid (Tw w W xb b7 b8 n p an aa nn nc ac F L H L2 H2 (.int .u8 p3.op) (.string p3.nm) (.slice a3 n3 c3) (.slice aa3 p3.k ac3) (.int .u8 p4.op) (.string p4.nm) (.slice a4 n4 c4) (.slice aa4 p4.k ac4)))) (by kernel_rfl) ?_ (fun hHeld => ?_)
        · exact ⟨cell_blk (HTW.out.keep (Below.refl _ _).drew).xa 0, cell_blk (HTW.out.keep (Below.refl _ _).drew).xa 1, cell_blk (HTW.out.keep (Below.refl _ _).drew).xa 2, cell_blk (HTW.out.keep (Below.refl _ _).drew).xa 3, cell_blk (HTW.out.keep (Below.refl _ _).drew).ya 0, cell_blk (HTW.out.keep (Below.refl _ _).drew).ya 1, cell_blk (HTW.out.keep (Below.refl _ _).drew).ya 2, cell_blk (HTW.out.keep (Below.refl _ _).drew).ya 3, Lib.hid (HTW.out.keep (Below.refl _ _).drew)⟩
        refine wpAnyH_take (i := 0) (oi := _) (v := ?_) rfl (by kernel_rfl) (by kernel_rfl) (by kernel_rfl) (fun _ _ _ h => h) (Or.inl ⟨by kernel_rfl, ?_⟩) (by assumption) ?_
        rotate_left 1
        focus (intro wq hSw; (try dsimp only at hSw); obtain ⟨s0, s1, s2, s3, s4, s5, s6, s7, s8⟩ := hSw; go_simp; (try with_reducible rfl); done)
        try simp only [List.getElem_toArray, List.getElem_cons_zero, List.getElem_cons_succ, Act.put, List.setIfInBounds_toArray, List.set_cons_zero, List.set_cons_succ]
        refine wpAnyH_take (i := 1) (oi := _) (v := ?_) rfl (by kernel_rfl) (by kernel_rfl) (by kernel_rfl) (fun _ _ _ h => h) (Or.inl ⟨by kernel_rfl, ?_⟩) (by assumption) ?_
        rotate_left 1
        focus (intro wq hSw; (try dsimp only at hSw); obtain ⟨s0, s1, s2, s3, s4, s5, s6, s7, s8⟩ := hSw; go_simp; (try with_reducible rfl); done)
        try simp only [List.getElem_toArray, List.getElem_cons_zero, List.getElem_cons_succ, Act.put, List.setIfInBounds_toArray, List.set_cons_zero, List.set_cons_succ]
        refine wpAnyH_ready (rs := [2]) (by kernel_rfl) (by simp) ?_
        refine AllReadyH.cons (o := _) rfl (fun K hK => ?_) AllReadyH.nil
        rw [if_pos (by kernel_rfl)]
        go_simp
        (go_at_call 18; (with_reducible refine (same_any n _ F n _ F _ (HFX.out.keep hHeld.2.2.2.2.2.2.2.2.out.bw) hHeld.2.2.2.2.2.2.2.2.out.ey.ex true ⟨fun _ => rfl, fun _ => rfl⟩).mono ?_); rintro e z1 ⟨rfl, qq⟩)
        first | refine hK.out _ _ ?_ (fun hHeld => ?_) | (go_wp2_with fail; refine hK.out _ _ ?_ (fun hHeld => ?_))
        · exact ⟨cell_blk (hHeld.2.2.2.2.2.2.2.2.out.keep qq).xa 0, cell_blk (hHeld.2.2.2.2.2.2.2.2.out.keep qq).xa 1, cell_blk (hHeld.2.2.2.2.2.2.2.2.out.keep qq).xa 2, cell_blk (hHeld.2.2.2.2.2.2.2.2.out.keep qq).xa 3, cell_blk (hHeld.2.2.2.2.2.2.2.2.out.keep qq).ya 0, cell_blk (hHeld.2.2.2.2.2.2.2.2.out.keep qq).ya 1, cell_blk (hHeld.2.2.2.2.2.2.2.2.out.keep qq).ya 2, cell_blk (hHeld.2.2.2.2.2.2.2.2.out.keep qq).ya 3, Lib.hid (hHeld.2.2.2.2.2.2.2.2.out.keep qq)⟩
        clear hK K
        try simp only [List.getElem_toArray, List.getElem_cons_zero, List.getElem_cons_succ, Act.put, List.setIfInBounds_toArray, List.set_cons_zero, List.set_cons_succ]
        refine wpAnyH_take (i := 3) (oi := _) (v := ?_) rfl (by kernel_rfl) (by kernel_rfl) (by kernel_rfl) (fun _ _ _ h => h) (Or.inl ⟨by kernel_rfl, ?_⟩) (by assumption) ?_
        rotate_left 1
        focus (intro wq hSw; (try dsimp only at hSw); obtain ⟨s0, s1, s2, s3, s4, s5, s6, s7, s8⟩ := hSw; go_simp; (try with_reducible rfl); done)
        try simp only [List.getElem_toArray, List.getElem_cons_zero, List.getElem_cons_succ, Act.put, List.setIfInBounds_toArray, List.set_cons_zero, List.set_cons_succ]
        refine wpAnyH_take (i := 4) (oi := _) (v := ?_) rfl (by kernel_rfl) (by kernel_rfl) (by kernel_rfl) (fun _ _ _ h => h) (Or.inl ⟨by kernel_rfl, ?_⟩) (by assumption) ?_
        rotate_left 1
        focus (intro wq hSw; (try dsimp only at hSw); obtain ⟨s0, s1, s2, s3, s4, s5, s6, s7, s8⟩ := hSw; go_simp; (try with_reducible rfl); done)
        try simp only [List.getElem_toArray, List.getElem_cons_zero, List.getElem_cons_succ, Act.put, List.setIfInBounds_toArray, List.set_cons_zero, List.set_cons_succ]
        refine wpAnyH_take (i := 5) (oi := _) (v := ?_) rfl (by kernel_rfl) (by kernel_rfl) (by kernel_rfl) (fun _ _ _ h => h) (Or.inl ⟨by kernel_rfl, ?_⟩) (by assumption) ?_
        rotate_left 1
        focus (intro wq hSw; (try dsimp only at hSw); obtain ⟨s0, s1, s2, s3, s4, s5, s6, s7, s8⟩ := hSw; go_simp; (try with_reducible rfl); done)
        try simp only [List.getElem_toArray, List.getElem_cons_zero, List.getElem_cons_succ, Act.put, List.setIfInBounds_toArray, List.set_cons_zero, List.set_cons_succ]
        refine wpAnyH_take (i := 7) (oi := _) (v := ?_) rfl (by kernel_rfl) (by kernel_rfl) (by kernel_rfl) (fun _ _ _ h => h) (Or.inl ⟨by kernel_rfl, ?_⟩) (by assumption) ?_
        rotate_left 1
        focus (intro wq hSw; (try dsimp only at hSw); obtain ⟨s0, s1, s2, s3, s4, s5, s6, s7, s8⟩ := hSw; go_simp; (try with_reducible rfl); done)
        try simp only [List.getElem_toArray, List.getElem_cons_zero, List.getElem_cons_succ, Act.put, List.setIfInBounds_toArray, List.set_cons_zero, List.set_cons_succ]
        refine wpAnyH_ready (rs := [6]) (by kernel_rfl) (by simp) ?_
        refine AllReadyH.cons (o := _) rfl (fun K hK => ?_) AllReadyH.nil
        rw [if_pos (by kernel_rfl)]
        go_simp
        (go_at_call 12; (with_reducible refine (count_any n _ F _ (HFX.out.keep hHeld.2.2.2.2.2.2.2.2.out.bw) HNN.out.1 HNN.out.2).mono ?_); rintro e z2 ⟨rfl, qq⟩)
        first | refine hK.out _ _ ?_ (fun hHeld => ?_) | (go_wp2_with fail; refine hK.out _ _ ?_ (fun hHeld => ?_))
        · exact ⟨cell_blk (hHeld.2.2.2.2.2.2.2.2.out.keep qq).xa 0, cell_blk (hHeld.2.2.2.2.2.2.2.2.out.keep qq).xa 1, cell_blk (hHeld.2.2.2.2.2.2.2.2.out.keep qq).xa 2, cell_blk (hHeld.2.2.2.2.2.2.2.2.out.keep qq).xa 3, cell_blk (hHeld.2.2.2.2.2.2.2.2.out.keep qq).ya 0, cell_blk (hHeld.2.2.2.2.2.2.2.2.out.keep qq).ya 1, cell_blk (hHeld.2.2.2.2.2.2.2.2.out.keep qq).ya 2, cell_blk (hHeld.2.2.2.2.2.2.2.2.out.keep qq).ya 3, Lib.hid (hHeld.2.2.2.2.2.2.2.2.out.keep qq)⟩
        clear hK K
        try simp only [List.getElem_toArray, List.getElem_cons_zero, List.getElem_cons_succ, Act.put, List.setIfInBounds_toArray, List.set_cons_zero, List.set_cons_succ]
        refine wpAnyH_ready (rs := [8]) (by kernel_rfl) (by simp) ?_
        refine AllReadyH.cons (o := _) rfl (fun K hK => ?_) AllReadyH.nil
        rw [if_pos (by kernel_rfl)]
        go_simp
        (go_at_call 12; (with_reducible refine (count_any n _ F _ hHeld.2.2.2.2.2.2.2.2.out.ey.ex HNN.out.1 HNN.out.2).mono ?_); rintro e z3 ⟨rfl, qq⟩)
        first | refine hK.out _ _ ?_ (fun hHeld => ?_) | (go_wp2_with fail; refine hK.out _ _ ?_ (fun hHeld => ?_))
        · exact ⟨cell_blk (hHeld.2.2.2.2.2.2.2.2.out.keep qq).xa 0, cell_blk (hHeld.2.2.2.2.2.2.2.2.out.keep qq).xa 1, cell_blk (hHeld.2.2.2.2.2.2.2.2.out.keep qq).xa 2, cell_blk (hHeld.2.2.2.2.2.2.2.2.out.keep qq).xa 3, cell_blk (hHeld.2.2.2.2.2.2.2.2.out.keep qq).ya 0, cell_blk (hHeld.2.2.2.2.2.2.2.2.out.keep qq).ya 1, cell_blk (hHeld.2.2.2.2.2.2.2.2.out.keep qq).ya 2, cell_blk (hHeld.2.2.2.2.2.2.2.2.out.keep qq).ya 3, Lib.hid (hHeld.2.2.2.2.2.2.2.2.out.keep qq)⟩
        clear hK K
        try simp only [List.getElem_toArray, List.getElem_cons_zero, List.getElem_cons_succ, Act.put, List.setIfInBounds_toArray, List.set_cons_zero, List.set_cons_succ]
        refine wpAnyH_take (i := 9) (oi := _) (v := ?_) rfl (by kernel_rfl) (by kernel_rfl) (by kernel_rfl) (fun _ _ _ h => h) (Or.inl ⟨by kernel_rfl, ?_⟩) (by assumption) ?_
        rotate_left 1
        focus (intro wq hSw; (try dsimp only at hSw); obtain ⟨s0, s1, s2, s3, s4, s5, s6, s7, s8⟩ := hSw; go_simp; (try with_reducible rfl); done)
        try simp only [List.getElem_toArray, List.getElem_cons_zero, List.getElem_cons_succ, Act.put, List.setIfInBounds_toArray, List.set_cons_zero, List.set_cons_succ]
        refine wpAnyH_take (i := 10) (oi := _) (v := ?_) rfl (by kernel_rfl) (by kernel_rfl) (by kernel_rfl) (fun _ _ _ h => h) (Or.inl ⟨by kernel_rfl, ?_⟩) (by assumption) ?_
        rotate_left 1
        focus (intro wq hSw; (try dsimp only at hSw); obtain ⟨s0, s1, s2, s3, s4, s5, s6, s7, s8⟩ := hSw; go_simp; (try with_reducible rfl); done)
        try simp only [List.getElem_toArray, List.getElem_cons_zero, List.getElem_cons_succ, Act.put, List.setIfInBounds_toArray, List.set_cons_zero, List.set_cons_succ]
        refine wpAnyH_take (i := 11) (oi := _) (v := ?_) rfl (by kernel_rfl) (by kernel_rfl) (by kernel_rfl) (fun _ _ _ h => h) (Or.inl ⟨by kernel_rfl, ?_⟩) (by assumption) ?_
        rotate_left 1
        focus (intro wq hSw; (try dsimp only at hSw); obtain ⟨s0, s1, s2, s3, s4, s5, s6, s7, s8⟩ := hSw; go_simp; (try with_reducible rfl); done)
        try simp only [List.getElem_toArray, List.getElem_cons_zero, List.getElem_cons_succ, Act.put, List.setIfInBounds_toArray, List.set_cons_zero, List.set_cons_succ]
        refine wpAnyH_take (i := 12) (oi := _) (v := ?_) rfl (by kernel_rfl) (by kernel_rfl) (by kernel_rfl) (fun _ _ _ h => h) (Or.inl ⟨by kernel_rfl, ?_⟩) (by assumption) ?_
        rotate_left 1
        focus (intro wq hSw; (try dsimp only at hSw); obtain ⟨s0, s1, s2, s3, s4, s5, s6, s7, s8⟩ := hSw; go_simp; (try with_reducible rfl); done)
        try simp only [List.getElem_toArray, List.getElem_cons_zero, List.getElem_cons_succ, Act.put, List.setIfInBounds_toArray, List.set_cons_zero, List.set_cons_succ]
        refine wpAnyH_take (i := 14) (oi := _) (v := ?_) rfl (by kernel_rfl) (by kernel_rfl) (by kernel_rfl) (fun _ _ _ h => h) (Or.inl ⟨by kernel_rfl, ?_⟩) (by assumption) ?_
        rotate_left 1
        focus (intro wq hSw; (try dsimp only at hSw); obtain ⟨s0, s1, s2, s3, s4, s5, s6, s7, s8⟩ := hSw; go_simp; (try with_reducible rfl); done)
        try simp only [List.getElem_toArray, List.getElem_cons_zero, List.getElem_cons_succ, Act.put, List.setIfInBounds_toArray, List.set_cons_zero, List.set_cons_succ]
        refine wpAnyH_ready (rs := [13]) (by kernel_rfl) (by simp) ?_
        refine AllReadyH.cons (o := _) rfl (fun K hK => ?_) AllReadyH.nil
        rw [if_pos (by kernel_rfl)]
        go_simp
        (go_at_call 14; (with_reducible refine (depth_any n _ F _ (HFX.out.keep hHeld.2.2.2.2.2.2.2.2.out.bw) HNN.out.1 HNN.out.2).mono ?_); rintro e z4 ⟨rfl, qq⟩)
        first | refine hK.out _ _ ?_ (fun hHeld => ?_) | (go_wp2_with fail; refine hK.out _ _ ?_ (fun hHeld => ?_))
        · exact ⟨cell_blk (hHeld.2.2.2.2.2.2.2.2.out.keep qq).xa 0, cell_blk (hHeld.2.2.2.2.2.2.2.2.out.keep qq).xa 1, cell_blk (hHeld.2.2.2.2.2.2.2.2.out.keep qq).xa 2, cell_blk (hHeld.2.2.2.2.2.2.2.2.out.keep qq).xa 3, cell_blk (hHeld.2.2.2.2.2.2.2.2.out.keep qq).ya 0, cell_blk (hHeld.2.2.2.2.2.2.2.2.out.keep qq).ya 1, cell_blk (hHeld.2.2.2.2.2.2.2.2.out.keep qq).ya 2, cell_blk (hHeld.2.2.2.2.2.2.2.2.out.keep qq).ya 3, Lib.hid (hHeld.2.2.2.2.2.2.2.2.out.keep qq)⟩
        clear hK K
        try simp only [List.getElem_toArray, List.getElem_cons_zero, List.getElem_cons_succ, Act.put, List.setIfInBounds_toArray, List.set_cons_zero, List.set_cons_succ]
        refine wpAnyH_ready (rs := [15]) (by kernel_rfl) (by simp) ?_
        refine AllReadyH.cons (o := _) rfl (fun K hK => ?_) AllReadyH.nil
        rw [if_pos (by kernel_rfl)]
        go_simp
        (go_at_call 14; (with_reducible refine (depth_any n _ F _ hHeld.2.2.2.2.2.2.2.2.out.ey.ex HNN.out.1 HNN.out.2).mono ?_); rintro e z5 ⟨rfl, qq⟩)
        first | refine hK.out _ _ ?_ (fun hHeld => ?_) | (go_wp2_with fail; refine hK.out _ _ ?_ (fun hHeld => ?_))
        · exact ⟨cell_blk (hHeld.2.2.2.2.2.2.2.2.out.keep qq).xa 0, cell_blk (hHeld.2.2.2.2.2.2.2.2.out.keep qq).xa 1, cell_blk (hHeld.2.2.2.2.2.2.2.2.out.keep qq).xa 2, cell_blk (hHeld.2.2.2.2.2.2.2.2.out.keep qq).xa 3, cell_blk (hHeld.2.2.2.2.2.2.2.2.out.keep qq).ya 0, cell_blk (hHeld.2.2.2.2.2.2.2.2.out.keep qq).ya 1, cell_blk (hHeld.2.2.2.2.2.2.2.2.out.keep qq).ya 2, cell_blk (hHeld.2.2.2.2.2.2.2.2.out.keep qq).ya 3, Lib.hid (hHeld.2.2.2.2.2.2.2.2.out.keep qq)⟩
        clear hK K
        try simp only [List.getElem_toArray, List.getElem_cons_zero, List.getElem_cons_succ, Act.put, List.setIfInBounds_toArray, List.set_cons_zero, List.set_cons_succ]
        refine wpAnyH_take (i := 16) (oi := _) (v := ?_) rfl (by kernel_rfl) (by kernel_rfl) (by kernel_rfl) (fun _ _ _ h => h) (Or.inl ⟨by kernel_rfl, ?_⟩) (by assumption) ?_
        rotate_left 1
        focus (intro wq hSw; (try dsimp only at hSw); obtain ⟨s0, s1, s2, s3, s4, s5, s6, s7, s8⟩ := hSw; go_simp; (try with_reducible rfl); done)
        try simp only [List.getElem_toArray, List.getElem_cons_zero, List.getElem_cons_succ, Act.put, List.setIfInBounds_toArray, List.set_cons_zero, List.set_cons_succ]
        refine wpAnyH_take (i := 17) (oi := _) (v := ?_) rfl (by kernel_rfl) (by kernel_rfl) (by kernel_rfl) (fun _ _ _ h => h) (Or.inl ⟨by kernel_rfl, ?_⟩) (by assumption) ?_
        rotate_left 1
        focus (intro wq hSw; (try dsimp only at hSw); obtain ⟨s0, s1, s2, s3, s4, s5, s6, s7, s8⟩ := hSw; go_simp; (try with_reducible rfl); done)
        try simp only [List.getElem_toArray, List.getElem_cons_zero, List.getElem_cons_succ, Act.put, List.setIfInBounds_toArray, List.set_cons_zero, List.set_cons_succ]
        refine wpAnyH_take (i := 18) (oi := _) (v := ?_) rfl (by kernel_rfl) (by kernel_rfl) (by kernel_rfl) (fun _ _ _ h => h) (Or.inl ⟨by kernel_rfl, ?_⟩) (by assumption) ?_
        rotate_left 1
        focus (intro wq hSw; (try dsimp only at hSw); obtain ⟨s0, s1, s2, s3, s4, s5, s6, s7, s8⟩ := hSw; go_simp; (try with_reducible rfl); done)
        try simp only [List.getElem_toArray, List.getElem_cons_zero, List.getElem_cons_succ, Act.put, List.setIfInBounds_toArray, List.set_cons_zero, List.set_cons_succ]
        refine wpAnyH_take (i := 19) (oi := _) (v := ?_) rfl (by kernel_rfl) (by kernel_rfl) (by kernel_rfl) (fun _ _ _ h => h) (Or.inl ⟨by kernel_rfl, ?_⟩) (by assumption) ?_
        rotate_left 1
        focus (intro wq hSw; (try dsimp only at hSw); obtain ⟨s0, s1, s2, s3, s4, s5, s6, s7, s8⟩ := hSw; go_simp; (try with_reducible rfl); done)
        try simp only [List.getElem_toArray, List.getElem_cons_zero, List.getElem_cons_succ, Act.put, List.setIfInBounds_toArray, List.set_cons_zero, List.set_cons_succ]
        refine wpAnyH_take (i := 21) (oi := _) (v := ?_) rfl (by kernel_rfl) (by kernel_rfl) (by kernel_rfl) (fun _ _ _ h => h) (Or.inl ⟨by kernel_rfl, ?_⟩) (by assumption) ?_
        rotate_left 1
        focus (intro wq hSw; (try dsimp only at hSw); obtain ⟨s0, s1, s2, s3, s4, s5, s6, s7, s8⟩ := hSw; go_simp; (try with_reducible rfl); done)
        try simp only [List.getElem_toArray, List.getElem_cons_zero, List.getElem_cons_succ, Act.put, List.setIfInBounds_toArray, List.set_cons_zero, List.set_cons_succ]
        refine wpAnyH_ready (rs := [20]) (by kernel_rfl) (by simp) ?_
        refine AllReadyH.cons (o := _) rfl (fun K hK => ?_) AllReadyH.nil
        rw [if_pos (by kernel_rfl)]
        go_simp
        (go_at_call 21; (with_reducible refine (names_any n _ F _ (HFX.out.keep hHeld.2.2.2.2.2.2.2.2.out.bw) HNN.out.1 HNM.out).mono ?_); rintro e z6 ⟨v1, rfl, HR1, q0⟩; have qq := q0.out; obtain ⟨oa, ca, rfl, ha, hca⟩ := own_st2 HR1.out; have HSA := Lib.hid ha; clear HR1 ha hca q0)
        first | refine hK.out _ _ ?_ (fun hHeld => ?_) | (go_wp2_with fail; refine hK.out _ _ ?_ (fun hHeld => ?_))
        · exact ⟨cell_blk (hHeld.2.2.2.2.2.2.2.2.out.keep qq).xa 0, cell_blk (hHeld.2.2.2.2.2.2.2.2.out.keep qq).xa 1, cell_blk (hHeld.2.2.2.2.2.2.2.2.out.keep qq).xa 2, cell_blk (hHeld.2.2.2.2.2.2.2.2.out.keep qq).xa 3, cell_blk (hHeld.2.2.2.2.2.2.2.2.out.keep qq).ya 0, cell_blk (hHeld.2.2.2.2.2.2.2.2.out.keep qq).ya 1, cell_blk (hHeld.2.2.2.2.2.2.2.2.out.keep qq).ya 2, cell_blk (hHeld.2.2.2.2.2.2.2.2.out.keep qq).ya 3, Lib.hid (hHeld.2.2.2.2.2.2.2.2.out.keep qq)⟩
        clear hK K
        try simp only [List.getElem_toArray, List.getElem_cons_zero, List.getElem_cons_succ, Act.put, List.setIfInBounds_toArray, List.set_cons_zero, List.set_cons_succ]
        refine wpAnyH_ready (rs := [22]) (by kernel_rfl) (by simp) ?_
        refine AllReadyH.cons (o := _) rfl (fun K hK => ?_) AllReadyH.nil
        rw [if_pos (by kernel_rfl)]
        go_simp
        (go_at_call 21; (with_reducible refine (names_any n _ F _ hHeld.2.2.2.2.2.2.2.2.out.ey.ex HNN.out.1 HNM.out).mono ?_); rintro e z7 ⟨v2, rfl, HR2, q0⟩; have qq := q0.out; obtain ⟨ob, cb, rfl, hb, hcb⟩ := own_st2 HR2.out; have HSB := Lib.hid hb; have HSA := Lib.hid (HSA.out.keep qq); clear HR2 hb hcb q0)
        first | refine hK.out _ _ ?_ (fun hHeld => ?_) | (go_wp2_with fail; refine hK.out _ _ ?_ (fun hHeld => ?_))
        · exact ⟨cell_blk (hHeld.2.2.2.2.2.2.2.2.out.keep qq).xa 0, cell_blk (hHeld.2.2.2.2.2.2.2.2.out.keep qq).xa 1, cell_blk (hHeld.2.2.2.2.2.2.2.2.out.keep qq).xa 2, cell_blk (hHeld.2.2.2.2.2.2.2.2.out.keep qq).xa 3, cell_blk (hHeld.2.2.2.2.2.2.2.2.out.keep qq).ya 0, cell_blk (hHeld.2.2.2.2.2.2.2.2.out.keep qq).ya 1, cell_blk (hHeld.2.2.2.2.2.2.2.2.out.keep qq).ya 2, cell_blk (hHeld.2.2.2.2.2.2.2.2.out.keep qq).ya 3, Lib.hid (hHeld.2.2.2.2.2.2.2.2.out.keep qq)⟩
        clear hK K
        try simp only [List.getElem_toArray, List.getElem_cons_zero, List.getElem_cons_succ, Act.put, List.setIfInBounds_toArray, List.set_cons_zero, List.set_cons_succ]
        refine wpAnyH_ready (rs := [23]) (by kernel_rfl) (by simp) ?_
        refine AllReadyH.cons (o := _) rfl (fun K hK => ?_) AllReadyH.nil
        rw [if_pos (by kernel_rfl)]
        go_simp
        (go_at_call 20; (with_reducible refine (texts_same oa ob _ ca cb _ _ HSA.out HSB.out).mono ?_); rintro e z8 ⟨rfl, qq⟩; clear HSA HSB)
        first | refine hK.out _ _ ?_ (fun hHeld => ?_) | (go_wp2_with fail; refine hK.out _ _ ?_ (fun hHeld => ?_))
        · exact ⟨cell_blk (hHeld.2.2.2.2.2.2.2.2.out.keep qq).xa 0, cell_blk (hHeld.2.2.2.2.2.2.2.2.out.keep qq).xa 1, cell_blk (hHeld.2.2.2.2.2.2.2.2.out.keep qq).xa 2, cell_blk (hHeld.2.2.2.2.2.2.2.2.out.keep qq).xa 3, cell_blk (hHeld.2.2.2.2.2.2.2.2.out.keep qq).ya 0, cell_blk (hHeld.2.2.2.2.2.2.2.2.out.keep qq).ya 1, cell_blk (hHeld.2.2.2.2.2.2.2.2.out.keep qq).ya 2, cell_blk (hHeld.2.2.2.2.2.2.2.2.out.keep qq).ya 3, Lib.hid (hHeld.2.2.2.2.2.2.2.2.out.keep qq)⟩
        clear hK K
        try simp only [List.getElem_toArray, List.getElem_cons_zero, List.getElem_cons_succ, Act.put, List.setIfInBounds_toArray, List.set_cons_zero, List.set_cons_succ]
        refine wpAnyH_take (i := 24) (oi := _) (v := ?_) rfl (by kernel_rfl) (by kernel_rfl) (by kernel_rfl) (fun _ _ _ h => h) (Or.inl ⟨by kernel_rfl, ?_⟩) (by assumption) ?_
        rotate_left 1
        focus (intro wq hSw; (try dsimp only at hSw); obtain ⟨s0, s1, s2, s3, s4, s5, s6, s7, s8⟩ := hSw; go_simp; (try with_reducible rfl); done)
        try simp only [List.getElem_toArray, List.getElem_cons_zero, List.getElem_cons_succ, Act.put, List.setIfInBounds_toArray, List.set_cons_zero, List.set_cons_succ]
        refine wpAnyH_take (i := 25) (oi := _) (v := ?_) rfl (by kernel_rfl) (by kernel_rfl) (by kernel_rfl) (fun _ _ _ h => h) (Or.inl ⟨by kernel_rfl, ?_⟩) (by assumption) ?_
        rotate_left 1
        focus (intro wq hSw; (try dsimp only at hSw); obtain ⟨s0, s1, s2, s3, s4, s5, s6, s7, s8⟩ := hSw; go_simp; (try with_reducible rfl); done)
        try simp only [List.getElem_toArray, List.getElem_cons_zero, List.getElem_cons_succ, Act.put, List.setIfInBounds_toArray, List.set_cons_zero, List.set_cons_succ]
        refine wpAnyH_done (by kernel_rfl) ?_ _
        have HTW := Lib.hid hHeld.2.2.2.2.2.2.2.2.out
        go_wp2_with fail
        go_meet
        case rel => exact ⟨rfl, HTW⟩
      case rest =>
        clear HTW HNM
        obtain ⟨rfl, HTW⟩ := hcut
        have HFO : Hid (∃ m lo hi F1 cur y0 y1 y2 y3, Foc wc L H b7 n F b7 0 m lo hi F1 cur y0 y1 y2 y3) := Lib.hid (by
          have h := HTW.out
          have ar := h.ar
          exact ⟨n, L, H, F, _, _, _, _, _, Foc.root h.ya h.ey (by omega) (by omega) HSM.out⟩)
        go_upto_region 8 with fail
        go_loopw [9, 11, 48] (fun s9 s11 s48 wr => ∃ (j g o : Nat), j ≤ kn ∧ s48 = .int .i64 j ∧ s9 = .pointer (some ⟨g, o, none⟩) ∧ Hid (∃ m lo hi F1 cur y0 y1 y2 y3, Foc wr L H b7 n F g o m lo hi F1 cur y0 y1 y2 y3) ∧ Hid (Tw w wr xb b7 b8 n p an aa nn nc ac F L H L2 H2 (.int .u8 p3.op) (.string p3.nm) (.slice a3 n3 c3) (.slice aa3 p3.k ac3) (.int .u8 p4.op) (.string p4.nm) (.slice a4 n4 c4) (.slice aa4 p4.k ac4))) (fun s9 s11 s48 _ => kn - (intOf s48).toNat)
        case atStart => exact ⟨0, b7, 0, Nat.zero_le _, rfl, rfl, HFO, HTW⟩
        case round =>
          clear HFO HTW
          obtain ⟨j, g, o, hj, rfl, rfl, HFO, HTW⟩ := hrel
          obtain ⟨m, lo, hi, F1, cur, y0, y1, y2, y3, hfo⟩ := HFO.out
          obtain ⟨p1, a1, n1, c1, aa1, ac1, rfl, rfl, rfl, rfl, hop, hnu, hk, hs1, hs2, hs3⟩ := hfo.sets
          have HFO := Lib.hid hfo
          have e0 := cell_blk hfo.blk o
          have e1 := cell_blk hfo.blk (o + 1)
          have e2 := cell_blk hfo.blk (o + 2)
          have e3 := cell_blk hfo.blk (o + 3)
          rw [hfo.c0] at e0
          rw [hfo.c1] at e1
          rw [hfo.c2] at e2
          rw [hfo.c3] at e3
          have i0 : (0 : Int) ≤ (j : Int) := by omega
          have q0 : (0 : Int) ≤ (p1.k : Int) := by omega
          have q1 : (p1.k : Int) ≤ 9223372036854775807 := by omega
          by_cases jlt : j < kn
          · have i1 : (j : Int) < kn := by omega
            clear hs1 hs2 hs3 hnu hk hop e0 e1 e2
            obtain ⟨kb, kp, rfl, hx⟩ := HKL.out.here (by omega)
            have hxj := hx j (by rw [HKL.out.len]; exact jlt)
            obtain ⟨U, hU⟩ : ∃ U, kl[j]'(by rw [HKL.out.len]; exact jlt) = U := ⟨_, rfl⟩
            rw [hU] at hxj
            have b0 := cell_keep hxj.1 HTW.out.bw
            have u0 := hxj.2.1
            have u1 := hxj.2.2
            clear hx hxj hU hfo
            by_cases kz : p1.k = 0
            · have kz2 : ¬ ((0 : Int) < (p1.k : Int)) := by omega
              go_wp2
              go_roundw
              case rel => exact ⟨j + 1, g, o, by omega, by go_num, rfl, Lib.hid ⟨_, _, _, _, _, _, _, _, _, HFO.out⟩, HTW⟩
              case measure => simp [intOf]; omega
            · have kz2 : (0 : Int) < (p1.k : Int) := by omega
              obtain ⟨i, hi⟩ : ∃ i : Nat, U % (p1.k : Int) = (i : Int) := ⟨(U % (p1.k : Int)).toNat, by have := Int.emod_nonneg U (show (p1.k : Int) ≠ 0 by omega); omega⟩
              have hik : i < p1.k := by have := Int.emod_lt_of_pos U kz2; omega
              obtain ⟨g2, m2, lo2, hi2, F2, cur2, z0, z1, z2, z3, rfl, hfo2⟩ := HFO.out.arg i hik
              have HFO2 := Lib.hid hfo2
              clear hfo2
              have t1 : U.tmod (p1.k : Int) = (i : Int) := by rw [Int.tmod_eq_emod_of_nonneg u0]; exact hi
              have t2 : IntKind.i64.wrap (i : Int) = (i : Int) := IntWalk.i64_in _ (by omega)
              have t3 : (0 : Int) ≤ (i : Int) := by omega
              have t4 : (i : Int) < (p1.k : Int) := by omega
              have t5 : ¬ (p1.k : Int) = 0 := by omega
              have t6 : ((p1.k : Int) == 0) = false := by simp; omega
              have t7 : ¬ p1.k = 0 := by omega
              have t8 : IntKind.i64.wrap U = U := IntWalk.i64_in _ (by omega)
              clear kz
              go_upto_region 11 with fail
              go_quiet (fail)
              clear t1 t2 t8
              go_wp2
              go_roundw
              case rel => exact ⟨j + 1, g2, i * 4, by omega, by go_num, rfl, Lib.hid ⟨_, _, _, _, _, _, _, _, _, HFO2.out.keep (below_drewN (Below.refl _ _) _)⟩, Lib.hid (HTW.out.keep (below_drewN (Below.refl _ _) _))⟩
              case measure => simp [intOf]; omega
          · have i1 : (kn : Int) ≤ (j : Int) := by omega
            clear HKL
            have f0 := blk_free hfo.blk o
            have f1 := blk_free hfo.blk (o + 1)
            have HIN := Lib.hid hfo.inn
            have HS1 := Lib.hid hs1
            have HS2 := Lib.hid hs2
            have HS3 := Lib.hid hs3
            have HOP := Lib.hid hop
            have HNU := Lib.hid hnu
            clear hs1 hs2 hs3 hop hnu hk hfo
            by_cases m0 : h8 % 3 = 0
            · have m1 : (h8 % 3 == 0) = true := by simp [m0]
              obtain ⟨X, hX⟩ : ∃ X, IntKind.u8.wrap (p1.op + 1) = X := ⟨_, rfl⟩
              have HX : Hid (0 ≤ X ∧ X ≤ 255 ∧ ¬ X = p1.op) := Lib.hid (by
                have a := HOP.out
                have b : X = (p1.op + 1) % 256 := by rw [← hX]; rfl
                omega)
              have hAF := HTW.out.af HIN.out (HS1.out X HX.out.1 HX.out.2.1 HX.out.2.2)
              clear m0 f1 HS1 HS2 HS3 HNU HIN HFO
              obtain ⟨q, bn, mn, mc, ba, bc, G, haf⟩ := hAF
              obtain ⟨wm, hwm⟩ : ∃ z, wr.setCell ⟨g, o, none⟩ (.int .u8 X) = z := ⟨_, rfl⟩
              go_upto_region 18 with fail
              try rw [hwm]
              rw [hwm] at haf
              have HAF := Lib.hid haf
              clear haf hwm HTW
              have cx0 := cell_blk HAF.out.xa 0
              have cy0 := HAF.out.y0
              have cz0 := cell_blk HAF.out.ka 0
              have cx1 := cell_blk HAF.out.xa 1
              have cy1 := HAF.out.y1
              have cz1 := cell_blk HAF.out.ka 1
              have cx2 := cell_blk HAF.out.xa 2
              have cy2 := HAF.out.y2
              have cz2 := cell_blk HAF.out.ka 2
              have cx3 := cell_blk HAF.out.xa 3
              have cy3 := HAF.out.y3
              have cz3 := cell_blk HAF.out.ka 3
              have HCL := Lib.hid (same_any n _ F n _ G wm (HFX.out.keep HAF.out.bw) HAF.out.ey false ⟨(fun h => nomatch h), fun e => absurd e.symm HAF.out.ne⟩)
              go_wp2_with fail
              (with_reducible refine HCL.out.mono ?_)
              rintro e k1 ⟨rfl, qq⟩
              have HAF := Lib.hid (HAF.out.keep qq)
              clear qq HCL
              clear cx0 cy0 cz0 cx1 cy1 cz1 cx2 cy2 cz2 cx3 cy3 cz3
              have cx0 := cell_blk HAF.out.xa 0
              have cy0 := HAF.out.y0
              have cz0 := cell_blk HAF.out.ka 0
              have cx1 := cell_blk HAF.out.xa 1
              have cy1 := HAF.out.y1
              have cz1 := cell_blk HAF.out.ka 1
              have cx2 := cell_blk HAF.out.xa 2
              have cy2 := HAF.out.y2
              have cz2 := cell_blk HAF.out.ka 2
              have cx3 := cell_blk HAF.out.xa 3
              have cy3 := HAF.out.y3
              have cz3 := cell_blk HAF.out.ka 3
              have HCL := Lib.hid (same_any n _ G n _ F k1 HAF.out.ey (HFX.out.keep HAF.out.bw) false ⟨(fun h => nomatch h), fun e => absurd e HAF.out.ne⟩)
              go_wp2_with fail
              (with_reducible refine HCL.out.mono ?_)
              rintro e k2 ⟨rfl, qq⟩
              have HAF := Lib.hid (HAF.out.keep qq)
              clear qq HCL
              clear cx0 cy0 cz0 cx1 cy1 cz1 cx2 cy2 cz2 cx3 cy3 cz3
              have cx0 := cell_blk HAF.out.xa 0
              have cy0 := HAF.out.y0
              have cz0 := cell_blk HAF.out.ka 0
              have cx1 := cell_blk HAF.out.xa 1
              have cy1 := HAF.out.y1
              have cz1 := cell_blk HAF.out.ka 1
              have cx2 := cell_blk HAF.out.xa 2
              have cy2 := HAF.out.y2
              have cz2 := cell_blk HAF.out.ka 2
              have cx3 := cell_blk HAF.out.xa 3
              have cy3 := HAF.out.y3
              have cz3 := cell_blk HAF.out.ka 3
              have HCL := Lib.hid (same_any n _ F n _ F k2 (HFX.out.keep HAF.out.bw) HAF.out.ek true ⟨fun _ => rfl, fun _ => rfl⟩)
              go_wp2_with fail
              (with_reducible refine HCL.out.mono ?_)
              rintro e k3 ⟨rfl, qq⟩
              have HAF := Lib.hid (HAF.out.keep qq)
              clear qq HCL
              clear cx0 cy0 cz0 cx1 cy1 cz1 cx2 cy2 cz2 cx3 cy3 cz3
              have cx0 := cell_blk HAF.out.xa 0
              have cy0 := HAF.out.y0
              have cz0 := cell_blk HAF.out.ka 0
              have cx1 := cell_blk HAF.out.xa 1
              have cy1 := HAF.out.y1
              have cz1 := cell_blk HAF.out.ka 1
              have cx2 := cell_blk HAF.out.xa 2
              have cy2 := HAF.out.y2
              have cz2 := cell_blk HAF.out.ka 2
              have cx3 := cell_blk HAF.out.xa 3
              have cy3 := HAF.out.y3
              have cz3 := cell_blk HAF.out.ka 3
              have HCL := Lib.hid (awake_any k3 (HTB.out.keep HAF.out.bw))
              go_wp2_with fail
              (with_reducible refine HCL.out.mono ?_)
              rintro e k4 ⟨rfl, qq⟩
              have HAF := Lib.hid (HAF.out.keep qq)
              clear qq HCL
              clear cx0 cy0 cz0 cx1 cy1 cz1 cx2 cy2 cz2 cx3 cy3 cz3
              go_wp2
              go_returns
              exact ⟨rfl, HAF.out.bw⟩
            · have m1 : (h8 % 3 == 0) = false := by simp [m0]
              have HNM2 := Lib.hid HOP.out.2.2
              have n10 : (0 : Int) ≤ (n1 : Int) := by omega
              have n11 : (n1 : Int) ≤ 9223372036854775807 := by have := HNU.out.le; have := HNU.out.top; omega
              by_cases mm : h8 % 3 = 1 ∧ 0 < n1
              · obtain ⟨m2, m3⟩ := mm
                have m4 : (h8 % 3 == 1) = true := by simp [m2]
                have m5 : (0 : Int) < (n1 : Int) := by omega
                obtain ⟨i, hi⟩ : ∃ i : Nat, h8 % (n1 : Int) = (i : Int) := ⟨(h8 % (n1 : Int)).toNat, by have := Int.emod_nonneg h8 (show (n1 : Int) ≠ 0 by omega); omega⟩
                have hik : i < n1 := by have := Int.emod_lt_of_pos h8 m5; omega
                obtain ⟨b2, cu, rfl, l1, l2, hb, hcu⟩ := HNU.out.here m3
                have hil : i < p1.nums.length := by rw [HNU.out.len]; exact hik
                have g1 := cell_blk hb i
                have g2 := blk_free hb i
                rw [hcu i hil] at g1
                have hrg := HNU.out.rng i hil
                have HS3 := Lib.hid (fun x => HS3.out b2 i x hil rfl)
                obtain ⟨V, hV⟩ : ∃ V, p1.nums[i] = V := ⟨_, rfl⟩
                rw [hV] at g1 hrg HS3
                obtain ⟨X, hX⟩ : ∃ X, IntKind.i64.wrap (V + 1) = X := ⟨_, rfl⟩
                have HX : Hid (-9223372036854775808 ≤ X ∧ X ≤ 9223372036854775807 ∧ ¬ X = V) := Lib.hid (by
                  by_cases z : V = 9223372036854775807
                  · rw [z] at hX
                    have : X = -9223372036854775808 := by rw [← hX]; rfl
                    omega
                  · rw [IntWalk.i64_in _ (by omega)] at hX
                    omega)
                have hAF := HTW.out.af (.inr ⟨l1, l2⟩) (HS3.out X HX.out.1 HX.out.2.1 HX.out.2.2)
                have t1 : h8.tmod (n1 : Int) = (i : Int) := by rw [Int.tmod_eq_emod_of_nonneg h80]; exact hi
                have t2 : IntKind.i64.wrap (i : Int) = (i : Int) := IntWalk.i64_in _ (by omega)
                have t3 : (0 : Int) ≤ (i : Int) := by omega
                have t4 : (i : Int) < (n1 : Int) := by omega
                have t5 : ¬ (n1 : Int) = 0 := by omega
                have t6 : ((n1 : Int) == 0) = false := by simp; omega
                have t7 : ¬ n1 = 0 := by omega
                have t8 : IntKind.i64.wrap h8 = h8 := IntWalk.i64_in _ (by omega)
                clear m0 m2 f0 f1 HS1 HS2 HS3 HNU HIN HFO HOP hV hb hcu hrg
                go_upto_region 17 with fail
                go_region
                clear t1 t2 t8
                obtain ⟨q, bn, mn, mc, ba, bc, G, haf⟩ := hAF
                obtain ⟨wm, hwm⟩ : ∃ z, wr.setCell ⟨b2, i, none⟩ (.int .i64 X) = z := ⟨_, rfl⟩
                go_upto_region 18 with fail
                try rw [hwm]
                rw [hwm] at haf
                have HAF := Lib.hid haf
                clear haf hwm HTW
                obtain ⟨wq, hwq⟩ : ∃ z, wm.drew = z := ⟨_, rfl⟩
                have HAF := Lib.hid (HAF.out.keep (by rw [← hwq]; exact (Below.refl _ wm).drew) : Af w wq xb b7 b8 n p q an aa bn ba nn nc ac mn mc bc F G _ _ _ _)
                rw [hwq]
                clear hwq
                obtain ⟨wm, rfl⟩ : ∃ z, z = wq := ⟨_, rfl⟩
                have cx0 := cell_blk HAF.out.xa 0
                have cy0 := HAF.out.y0
                have cz0 := cell_blk HAF.out.ka 0
                have cx1 := cell_blk HAF.out.xa 1
                have cy1 := HAF.out.y1
                have cz1 := cell_blk HAF.out.ka 1
                have cx2 := cell_blk HAF.out.xa 2
                have cy2 := HAF.out.y2
                have cz2 := cell_blk HAF.out.ka 2
                have cx3 := cell_blk HAF.out.xa 3
                have cy3 := HAF.out.y3
                have cz3 := cell_blk HAF.out.ka 3
                have HCL := Lib.hid (same_any n _ F n _ G wm (HFX.out.keep HAF.out.bw) HAF.out.ey false ⟨(fun h => nomatch h), fun e => absurd e.symm HAF.out.ne⟩)
                go_wp2_with fail
                (with_reducible refine HCL.out.mono ?_)
                rintro e k1 ⟨rfl, qq⟩
                have HAF := Lib.hid (HAF.out.keep qq)
                clear qq HCL
                clear cx0 cy0 cz0 cx1 cy1 cz1 cx2 cy2 cz2 cx3 cy3 cz3
                have cx0 := cell_blk HAF.out.xa 0
                have cy0 := HAF.out.y0
                have cz0 := cell_blk HAF.out.ka 0
                have cx1 := cell_blk HAF.out.xa 1
                have cy1 := HAF.out.y1
                have cz1 := cell_blk HAF.out.ka 1
                have cx2 := cell_blk HAF.out.xa 2
                have cy2 := HAF.out.y2
                have cz2 := cell_blk HAF.out.ka 2
                have cx3 := cell_blk HAF.out.xa 3
                have cy3 := HAF.out.y3
                have cz3 := cell_blk HAF.out.ka 3
                have HCL := Lib.hid (same_any n _ G n _ F k1 HAF.out.ey (HFX.out.keep HAF.out.bw) false ⟨(fun h => nomatch h), fun e => absurd e HAF.out.ne⟩)
                go_wp2_with fail
                (with_reducible refine HCL.out.mono ?_)
                rintro e k2 ⟨rfl, qq⟩
                have HAF := Lib.hid (HAF.out.keep qq)
                clear qq HCL
                clear cx0 cy0 cz0 cx1 cy1 cz1 cx2 cy2 cz2 cx3 cy3 cz3
                have cx0 := cell_blk HAF.out.xa 0
                have cy0 := HAF.out.y0
                have cz0 := cell_blk HAF.out.ka 0
                have cx1 := cell_blk HAF.out.xa 1
                have cy1 := HAF.out.y1
                have cz1 := cell_blk HAF.out.ka 1
                have cx2 := cell_blk HAF.out.xa 2
                have cy2 := HAF.out.y2
                have cz2 := cell_blk HAF.out.ka 2
                have cx3 := cell_blk HAF.out.xa 3
                have cy3 := HAF.out.y3
                have cz3 := cell_blk HAF.out.ka 3
                have HCL := Lib.hid (same_any n _ F n _ F k2 (HFX.out.keep HAF.out.bw) HAF.out.ek true ⟨fun _ => rfl, fun _ => rfl⟩)
                go_wp2_with fail
                (with_reducible refine HCL.out.mono ?_)
                rintro e k3 ⟨rfl, qq⟩
                have HAF := Lib.hid (HAF.out.keep qq)
                clear qq HCL
                clear cx0 cy0 cz0 cx1 cy1 cz1 cx2 cy2 cz2 cx3 cy3 cz3
                have cx0 := cell_blk HAF.out.xa 0
                have cy0 := HAF.out.y0
                have cz0 := cell_blk HAF.out.ka 0
                have cx1 := cell_blk HAF.out.xa 1
                have cy1 := HAF.out.y1
                have cz1 := cell_blk HAF.out.ka 1
                have cx2 := cell_blk HAF.out.xa 2
                have cy2 := HAF.out.y2
                have cz2 := cell_blk HAF.out.ka 2
                have cx3 := cell_blk HAF.out.xa 3
                have cy3 := HAF.out.y3
                have cz3 := cell_blk HAF.out.ka 3
                have HCL := Lib.hid (awake_any k3 (HTB.out.keep HAF.out.bw))
                go_wp2_with fail
                (with_reducible refine HCL.out.mono ?_)
                rintro e k4 ⟨rfl, qq⟩
                have HAF := Lib.hid (HAF.out.keep qq)
                clear qq HCL
                clear cx0 cy0 cz0 cx1 cy1 cz1 cx2 cy2 cz2 cx3 cy3 cz3
                go_wp2
                go_returns
                exact ⟨rfl, HAF.out.bw⟩

              · have m4 : h8 % 3 = 1 → n1 = 0 := fun h => by
                  rcases Nat.eq_zero_or_pos n1 with z | z
                  · exact z
                  · exact absurd ⟨h, z⟩ mm
                have HNS : Hid (p1.nm.size ≤ 1048576) := HNM2
                have m6 : p1.nm.size ≤ 1048576 := HNS.out
                have hAF := HTW.out.af HIN.out (HS2.out (p1.nm ++ ⟨#[120]⟩) (by rw [ByteArray.size_append]; have : (⟨#[120]⟩ : ByteArray).size = 1 := rfl; unfold maxLen; omega) (fun e => by have := congrArg ByteArray.size e; rw [ByteArray.size_append] at this; have : (⟨#[120]⟩ : ByteArray).size = 1 := rfl; omega))
                clear mm m0 f0 HS1 HS2 HS3 HNU HIN HFO HOP
                by_cases m2 : h8 % 3 = 1
                · obtain rfl := m4 m2
                  have m5 : (h8 % 3 == 1) = true := by simp [m2]
                  clear m4 m2
                  obtain ⟨q, bn, mn, mc, ba, bc, G, haf⟩ := hAF
                  obtain ⟨wm, hwm⟩ : ∃ z, wr.setCell ⟨g, o + 1, none⟩ (.string (p1.nm ++ ⟨#[120]⟩)) = z := ⟨_, rfl⟩
                  go_upto_region 18 with fail
                  try rw [hwm]
                  rw [hwm] at haf
                  have HAF := Lib.hid haf
                  clear haf hwm HTW
                  have cx0 := cell_blk HAF.out.xa 0
                  have cy0 := HAF.out.y0
                  have cz0 := cell_blk HAF.out.ka 0
                  have cx1 := cell_blk HAF.out.xa 1
                  have cy1 := HAF.out.y1
                  have cz1 := cell_blk HAF.out.ka 1
                  have cx2 := cell_blk HAF.out.xa 2
                  have cy2 := HAF.out.y2
                  have cz2 := cell_blk HAF.out.ka 2
                  have cx3 := cell_blk HAF.out.xa 3
                  have cy3 := HAF.out.y3
                  have cz3 := cell_blk HAF.out.ka 3
                  have HCL := Lib.hid (same_any n _ F n _ G wm (HFX.out.keep HAF.out.bw) HAF.out.ey false ⟨(fun h => nomatch h), fun e => absurd e.symm HAF.out.ne⟩)
                  go_wp2_with fail
                  (with_reducible refine HCL.out.mono ?_)
                  rintro e k1 ⟨rfl, qq⟩
                  have HAF := Lib.hid (HAF.out.keep qq)
                  clear qq HCL
                  clear cx0 cy0 cz0 cx1 cy1 cz1 cx2 cy2 cz2 cx3 cy3 cz3
                  have cx0 := cell_blk HAF.out.xa 0
                  have cy0 := HAF.out.y0
                  have cz0 := cell_blk HAF.out.ka 0
                  have cx1 := cell_blk HAF.out.xa 1
                  have cy1 := HAF.out.y1
                  have cz1 := cell_blk HAF.out.ka 1
                  have cx2 := cell_blk HAF.out.xa 2
                  have cy2 := HAF.out.y2
                  have cz2 := cell_blk HAF.out.ka 2
                  have cx3 := cell_blk HAF.out.xa 3
                  have cy3 := HAF.out.y3
                  have cz3 := cell_blk HAF.out.ka 3
                  have HCL := Lib.hid (same_any n _ G n _ F k1 HAF.out.ey (HFX.out.keep HAF.out.bw) false ⟨(fun h => nomatch h), fun e => absurd e HAF.out.ne⟩)
                  go_wp2_with fail
                  (with_reducible refine HCL.out.mono ?_)
                  rintro e k2 ⟨rfl, qq⟩
                  have HAF := Lib.hid (HAF.out.keep qq)
                  clear qq HCL
                  clear cx0 cy0 cz0 cx1 cy1 cz1 cx2 cy2 cz2 cx3 cy3 cz3
                  have cx0 := cell_blk HAF.out.xa 0
                  have cy0 := HAF.out.y0
                  have cz0 := cell_blk HAF.out.ka 0
                  have cx1 := cell_blk HAF.out.xa 1
                  have cy1 := HAF.out.y1
                  have cz1 := cell_blk HAF.out.ka 1
                  have cx2 := cell_blk HAF.out.xa 2
                  have cy2 := HAF.out.y2
                  have cz2 := cell_blk HAF.out.ka 2
                  have cx3 := cell_blk HAF.out.xa 3
                  have cy3 := HAF.out.y3
                  have cz3 := cell_blk HAF.out.ka 3
                  have HCL := Lib.hid (same_any n _ F n _ F k2 (HFX.out.keep HAF.out.bw) HAF.out.ek true ⟨fun _ => rfl, fun _ => rfl⟩)
                  go_wp2_with fail
                  (with_reducible refine HCL.out.mono ?_)
                  rintro e k3 ⟨rfl, qq⟩
                  have HAF := Lib.hid (HAF.out.keep qq)
                  clear qq HCL
                  clear cx0 cy0 cz0 cx1 cy1 cz1 cx2 cy2 cz2 cx3 cy3 cz3
                  have cx0 := cell_blk HAF.out.xa 0
                  have cy0 := HAF.out.y0
                  have cz0 := cell_blk HAF.out.ka 0
                  have cx1 := cell_blk HAF.out.xa 1
                  have cy1 := HAF.out.y1
                  have cz1 := cell_blk HAF.out.ka 1
                  have cx2 := cell_blk HAF.out.xa 2
                  have cy2 := HAF.out.y2
                  have cz2 := cell_blk HAF.out.ka 2
                  have cx3 := cell_blk HAF.out.xa 3
                  have cy3 := HAF.out.y3
                  have cz3 := cell_blk HAF.out.ka 3
                  have HCL := Lib.hid (awake_any k3 (HTB.out.keep HAF.out.bw))
                  go_wp2_with fail
                  (with_reducible refine HCL.out.mono ?_)
                  rintro e k4 ⟨rfl, qq⟩
                  have HAF := Lib.hid (HAF.out.keep qq)
                  clear qq HCL
                  clear cx0 cy0 cz0 cx1 cy1 cz1 cx2 cy2 cz2 cx3 cy3 cz3
                  go_wp2
                  go_returns
                  exact ⟨rfl, HAF.out.bw⟩

                · have m5 : (h8 % 3 == 1) = false := by simp [m2]
                  clear m4
                  obtain ⟨q, bn, mn, mc, ba, bc, G, haf⟩ := hAF
                  obtain ⟨wm, hwm⟩ : ∃ z, wr.setCell ⟨g, o + 1, none⟩ (.string (p1.nm ++ ⟨#[120]⟩)) = z := ⟨_, rfl⟩
                  go_upto_region 18 with fail
                  try rw [hwm]
                  rw [hwm] at haf
                  have HAF := Lib.hid haf
                  clear haf hwm HTW
                  have cx0 := cell_blk HAF.out.xa 0
                  have cy0 := HAF.out.y0
                  have cz0 := cell_blk HAF.out.ka 0
                  have cx1 := cell_blk HAF.out.xa 1
                  have cy1 := HAF.out.y1
                  have cz1 := cell_blk HAF.out.ka 1
                  have cx2 := cell_blk HAF.out.xa 2
                  have cy2 := HAF.out.y2
                  have cz2 := cell_blk HAF.out.ka 2
                  have cx3 := cell_blk HAF.out.xa 3
                  have cy3 := HAF.out.y3
                  have cz3 := cell_blk HAF.out.ka 3
                  have HCL := Lib.hid (same_any n _ F n _ G wm (HFX.out.keep HAF.out.bw) HAF.out.ey false ⟨(fun h => nomatch h), fun e => absurd e.symm HAF.out.ne⟩)
                  go_wp2_with fail
                  (with_reducible refine HCL.out.mono ?_)
                  rintro e k1 ⟨rfl, qq⟩
                  have HAF := Lib.hid (HAF.out.keep qq)
                  clear qq HCL
                  clear cx0 cy0 cz0 cx1 cy1 cz1 cx2 cy2 cz2 cx3 cy3 cz3
                  have cx0 := cell_blk HAF.out.xa 0
                  have cy0 := HAF.out.y0
                  have cz0 := cell_blk HAF.out.ka 0
                  have cx1 := cell_blk HAF.out.xa 1
                  have cy1 := HAF.out.y1
                  have cz1 := cell_blk HAF.out.ka 1
                  have cx2 := cell_blk HAF.out.xa 2
                  have cy2 := HAF.out.y2
                  have cz2 := cell_blk HAF.out.ka 2
                  have cx3 := cell_blk HAF.out.xa 3
                  have cy3 := HAF.out.y3
                  have cz3 := cell_blk HAF.out.ka 3
                  have HCL := Lib.hid (same_any n _ G n _ F k1 HAF.out.ey (HFX.out.keep HAF.out.bw) false ⟨(fun h => nomatch h), fun e => absurd e HAF.out.ne⟩)
                  go_wp2_with fail
                  (with_reducible refine HCL.out.mono ?_)
                  rintro e k2 ⟨rfl, qq⟩
                  have HAF := Lib.hid (HAF.out.keep qq)
                  clear qq HCL
                  clear cx0 cy0 cz0 cx1 cy1 cz1 cx2 cy2 cz2 cx3 cy3 cz3
                  have cx0 := cell_blk HAF.out.xa 0
                  have cy0 := HAF.out.y0
                  have cz0 := cell_blk HAF.out.ka 0
                  have cx1 := cell_blk HAF.out.xa 1
                  have cy1 := HAF.out.y1
                  have cz1 := cell_blk HAF.out.ka 1
                  have cx2 := cell_blk HAF.out.xa 2
                  have cy2 := HAF.out.y2
                  have cz2 := cell_blk HAF.out.ka 2
                  have cx3 := cell_blk HAF.out.xa 3
                  have cy3 := HAF.out.y3
                  have cz3 := cell_blk HAF.out.ka 3
                  have HCL := Lib.hid (same_any n _ F n _ F k2 (HFX.out.keep HAF.out.bw) HAF.out.ek true ⟨fun _ => rfl, fun _ => rfl⟩)
                  go_wp2_with fail
                  (with_reducible refine HCL.out.mono ?_)
                  rintro e k3 ⟨rfl, qq⟩
                  have HAF := Lib.hid (HAF.out.keep qq)
                  clear qq HCL
                  clear cx0 cy0 cz0 cx1 cy1 cz1 cx2 cy2 cz2 cx3 cy3 cz3
                  have cx0 := cell_blk HAF.out.xa 0
                  have cy0 := HAF.out.y0
                  have cz0 := cell_blk HAF.out.ka 0
                  have cx1 := cell_blk HAF.out.xa 1
                  have cy1 := HAF.out.y1
                  have cz1 := cell_blk HAF.out.ka 1
                  have cx2 := cell_blk HAF.out.xa 2
                  have cy2 := HAF.out.y2
                  have cz2 := cell_blk HAF.out.ka 2
                  have cx3 := cell_blk HAF.out.xa 3
                  have cy3 := HAF.out.y3
                  have cz3 := cell_blk HAF.out.ka 3
                  have HCL := Lib.hid (awake_any k3 (HTB.out.keep HAF.out.bw))
                  go_wp2_with fail
                  (with_reducible refine HCL.out.mono ?_)
                  rintro e k4 ⟨rfl, qq⟩
                  have HAF := Lib.hid (HAF.out.keep qq)
                  clear qq HCL
                  clear cx0 cy0 cz0 cx1 cy1 cz1 cx2 cy2 cz2 cx3 cy3 cz3
                  go_wp2
                  go_returns
                  exact ⟨rfl, HAF.out.bw⟩

  · have d1 : decide (Lx ≤ 3000) = false := decide_eq_false c1
    have HQ := Lib.hid (awake_any w2 (hT.keep KA.out))
    go_wp2_with fail
    (with_reducible refine HQ.out.mono ?_)
    rintro e wz ⟨rfl, q9⟩
    have HF9 := Lib.hid (KA.out.trans (q9.mono KA.out.size))
    clear q9
    go_wp2
    go_returns
    exact ⟨rfl, HF9.out⟩
end Go.Proofs.YtgealkflfmeicaaDoor
