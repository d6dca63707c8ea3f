/- M11, M12 in one. -/
import Derived.Test.YtkhnoikdfelheaaM8
import Derived.Test.YtkhnoikdfelheaaM10
import Derived.Test.YtkhnoikdfelheaaM9
import Derived.Deep.CutRange
namespace Go.Proofs.Ytkhnoikdfelheaa
set_option linter.unusedVariables false
set_option linter.unusedSimpArgs false
open Go.ChangeShapes Go.WideShapes Go.ChangeAt Go.RowKit
/-- A form in memory of a call's own. -/
structure Fv.Own (G : Fv) (w : World) (B : Nat) : Prop where
  co : CoOwn w B (.slice G.co G.cn G.cc) G.cn G.cs
  od : OdOwn w B (.slice G.oo G.on G.oc) G.on G.os
  p1 : -9223372036854775808 ≤ G.P
  p2 : G.P ≤ 9223372036854775807
  n1 : -9223372036854775808 ≤ G.N
  n2 : G.N ≤ 9223372036854775807
  short : (∀ l ∈ G.cs, l.length ≤ 10000000000000) ∧ ∀ o ∈ G.os, o.2.length ≤ 10000000000000
theorem Fv.Own.at_ {G : Fv} {w : World} {B : Nat} (h : G.Own w B) : G.At w := by
  obtain ⟨a1, c1, e1, x1⟩ := h.co.vs
  obtain ⟨a2, c2, e2, x2⟩ := h.od.vs
  cases e1
  cases e2
  exact ⟨h.p1, h.p2, h.n1, h.n2, x1, x2, h.short⟩
theorem Fv.Own.keep {G : Fv} {w w' : World} {B : Nat} (h : G.Own w B) (k : Below w.heap.size w w') : G.Own w' B := ⟨h.co.keep k, h.od.keep k, h.p1, h.p2, h.n1, h.n2, h.short⟩
theorem Fv.Own.mono {G : Fv} {w : World} {B C : Nat} (h : G.Own w B) (k : C ≤ B) : G.Own w C := ⟨h.co.mono k, h.od.mono k, h.p1, h.p2, h.n1, h.n2, h.short⟩
theorem Fv.Own.row {G : Fv} {w w' : World} {B q : Nat} (h : G.Own w B) (hg : w.grownBy w' (some q)) (k : q < B) : G.Own w' B :=
  ⟨h.co.grown hg (fun q e => .inl (by cases e; exact k)) (fun q e => .inl (by cases e; exact k)), h.od.grown hg (fun q e => .inl (by cases e; exact k)) (fun q e => .inl (by cases e; exact k)), h.p1, h.p2, h.n1, h.n2, h.short⟩
theorem form_can (F : Fv) (w : World) (hF : F.At w) (ok : F.Ok) (rt : F.Rt) (hr : ∀ W, F.At W → Calls Try.prog 19 #[F.v] W fun e w' => e = .returned (.int .i64 0) ∧ Below W.heap.size W w') :
    Calls Try.prog 11 #[F.v] w fun e w' => ∃ G : Fv, e = .returned G.v ∧ IsCan F G ∧ G.Own w' w.heap.size ∧ Below w.heap.size w w' := by
  refine (form_right F w hF ok hr).mono ?_
  rintro e w' ⟨d, vc, vo, rfl, hT, hO, hB⟩
  obtain ⟨h1, h2⟩ := hO.out
  obtain ⟨a1, c1, rfl, x1⟩ := h1.vs
  obtain ⟨a2, c2, rfl, x2⟩ := h2.vs
  have hc : IsCan F ⟨canP F.P F.N d, d, a1, d, c1, a2, (canOs F).length, c2, F.cs.take d, canOs F⟩ := ⟨hT.out, rfl, rfl, rfl, rfl⟩
  have hm := meas_P (can_rt hc rt hF.core.len).meas
  have hd : d ≤ 1000000 := by
    rcases hT.out with ⟨h, _⟩ | ⟨⟨l, hl, _⟩, h, _⟩
    · omega
    · rcases meas_full ok.meas hF.core.len with q | q
      · have := turn_le q h; have := ok.cn; have := hF.core.len; omega
      · rw [q] at hl; cases hl
  refine ⟨_, rfl, hc, ⟨h1, h2, ?_, ?_, ?_, ?_, (fun l hl => hF.short.1 l (List.mem_of_mem_take hl)), (fun o ho => hF.short.2 o (List.mem_filter.1 ho).1)⟩, hB.out⟩
  · show -9223372036854775808 ≤ canP F.P F.N d
    have : 0 ≤ canP F.P F.N d := hm.1
    omega
  · show canP F.P F.N d ≤ 9223372036854775807
    have : canP F.P F.N d ≤ 1099511627776 := hm.2
    omega
  · show -9223372036854775808 ≤ (d : Int)
    omega
  · show (d : Int) ≤ 9223372036854775807
    omega
theorem isCan_unique {F G H : Fv} (h : IsCan F G) (k : IsCan F H) : G.P = H.P ∧ G.N = H.N ∧ G.cs = H.cs ∧ G.os = H.os := by
  have e := isTurn_unique h.turn k.turn
  exact ⟨by rw [h.P, k.P, e], by rw [h.N, k.N, e], by rw [h.cs, k.cs, e], by rw [h.os, k.os]⟩
/-- Two forms have the same canonical form. -/
def CanEq (F H : Fv) : Prop := ∀ G K, IsCan F G → IsCan H K → G.P = K.P ∧ G.N = K.N ∧ G.cs = K.cs ∧ G.os = K.os
theorem canEq_iff {F H G K : Fv} (h : IsCan F G) (k : IsCan H K) : CanEq F H ↔ G.P = K.P ∧ G.N = K.N ∧ G.cs = K.cs ∧ G.os = K.os := by
  refine ⟨fun q => q G K h k, fun q G' K' h' k' => ?_⟩
  obtain ⟨a1, a2, a3, a4⟩ := isCan_unique h h'
  obtain ⟨b1, b2, b3, b4⟩ := isCan_unique k k'
  obtain ⟨q1, q2, q3, q4⟩ := q
  exact ⟨by rw [← a1, ← b1, q1], by rw [← a2, ← b2, q2], by rw [← a3, ← b3, q3], by rw [← a4, ← b4, q4]⟩
theorem block_free {w : World} {b : Nat} {c : Array Value} {t : TypeId} (h : w.heap[b]? = some (.cells c t (0, 0))) (k : Nat) : w.frozen? ⟨b, k, none⟩ = false := by
  unfold World.frozen?; rw [h]; simp
/-- Two boxes written. -/
theorem two_put {w W : World} {b b2 B : Nat} {G K : Fv} (hG : G.Own W B) (hK : K.Own W B) (h1 : b < B) (h2 : b2 < B) (hne : b ≠ b2) (hs : B ≤ W.heap.size) (l1 : w.heap.size ≤ b) (l2 : w.heap.size ≤ b2) (hB : Below w.heap.size w W)
    {x0 x1 x2 x3 y0 y1 y2 y3 : Value} (k1 : W.heap[b]? = some (.cells #[x0, x1, x2, x3] 25 (0, 0))) (k2 : W.heap[b2]? = some (.cells #[y0, y1, y2, y3] 25 (0, 0))) {W2 : World}
    (e : W2 = (((((((W.setCell ⟨b, 0, none⟩ (.int .i64 G.P)).setCell ⟨b, 1, none⟩ (.int .i64 G.N)).setCell ⟨b, 2, none⟩ (.slice G.co G.cn G.cc)).setCell ⟨b, 3, none⟩ (.slice G.oo G.on G.oc)).setCell ⟨b2, 0, none⟩ (.int .i64 K.P)).setCell ⟨b2, 1, none⟩ (.int .i64 K.N)).setCell ⟨b2, 2, none⟩ (.slice K.co K.cn K.cc)).setCell ⟨b2, 3, none⟩ (.slice K.oo K.on K.oc)) :
    Fbox G w W2 b ∧ Fbox K w W2 b2 := by
  subst e
  have g1 := grown_four W b (.int .i64 G.P) (.int .i64 G.N) (.slice G.co G.cn G.cc) (.slice G.oo G.on G.oc)
  have p1 := put_four k1 (.int .i64 G.P) (.int .i64 G.N) (.slice G.co G.cn G.cc) (.slice G.oo G.on G.oc)
  generalize (((W.setCell ⟨b, 0, none⟩ (.int .i64 G.P)).setCell ⟨b, 1, none⟩ (.int .i64 G.N)).setCell ⟨b, 2, none⟩ (.slice G.co G.cn G.cc)).setCell ⟨b, 3, none⟩ (.slice G.oo G.on G.oc) = W1 at *
  have k2' := (g1.block b2 (by omega) (by intro e; cases e; exact hne rfl)).trans k2
  have g2 := grown_four W1 b2 (.int .i64 K.P) (.int .i64 K.N) (.slice K.co K.cn K.cc) (.slice K.oo K.on K.oc)
  have p2 := put_four k2' (.int .i64 K.P) (.int .i64 K.N) (.slice K.co K.cn K.cc) (.slice K.oo K.on K.oc)
  generalize (((W1.setCell ⟨b2, 0, none⟩ (.int .i64 K.P)).setCell ⟨b2, 1, none⟩ (.int .i64 K.N)).setCell ⟨b2, 2, none⟩ (.slice K.co K.cn K.cc)).setCell ⟨b2, 3, none⟩ (.slice K.oo K.on K.oc) = W2 at *
  have p1' := (g2.block b (by have := g1.size; omega) (by intro e; cases e; exact hne rfl)).trans p1
  have hB2 : Below w.heap.size w W2 := (hB.grown g1 hB.size (fun q e => by cases e; exact l1)).grown g2 (Nat.le_trans hB.size g1.size) (fun q e => by cases e; exact l2)
  exact ⟨⟨((hG.row g1 h1).row g2 h2).at_, cell_block p1' 0, cell_block p1' 1, cell_block p1' 2, cell_block p1' 3, hB2⟩, ⟨((hK.row g1 h1).row g2 h2).at_, cell_block p2 0, cell_block p2 1, cell_block p2 2, cell_block p2 3, hB2⟩⟩
set_option maxRecDepth 8000 in
set_option maxHeartbeats 4000000 in
theorem canSame_any (F H : Fv) (w : World) (hF : F.At w) (hH : H.At w) (okF : F.Ok) (okH : H.Ok) (rtF : F.Rt) (rtH : H.Rt)
    (rF : ∀ W, F.At W → Calls Try.prog 19 #[F.v] W fun e w' => e = .returned (.int .i64 0) ∧ Below W.heap.size W w')
    (rH : ∀ W, H.At W → Calls Try.prog 19 #[H.v] W fun e w' => e = .returned (.int .i64 0) ∧ Below W.heap.size W w') (r : Bool) (hr : r = true ↔ CanEq F H) :
    Calls Try.prog 18 #[F.v, H.v] w fun e w' => e = .returned (.bool r) ∧ Below w.heap.size w w' := by
  have C1 := Lib.hid (fun W (h : Below w.heap.size w W) => form_can F W (hF.keep h) okF rtF rF)
  have C2 := Lib.hid (fun W (h : Below w.heap.size w W) => form_can H W (hH.keep h) okH rtH rH)
  have HCE := Lib.hid (fun G K (h : IsCan F G) (k : IsCan H K) => canEq_iff h k)
  have HR := Lib.hid hr
  clear hF hH okF okH rtF rtH rF rH hr
  obtain ⟨P1, N1, co1, cn1, cc1, oo1, on1, oc1, cs1, os1⟩ := F
  obtain ⟨P2, N2, co2, cn2, cc2, oo2, on2, oc2, cs2, os2⟩ := H
  have C1 : Hid (∀ W, Below w.heap.size w W → Calls Try.prog 11 #[.agg #[.int .i64 P1, .int .i64 N1, .slice co1 cn1 cc1, .slice oo1 on1 oc1]] W fun e w' => ∃ G : Fv, e = .returned G.v ∧ IsCan ⟨P1, N1, co1, cn1, cc1, oo1, on1, oc1, cs1, os1⟩ G ∧ G.Own w' W.heap.size ∧ Below W.heap.size W w') := C1
  have C2 : Hid (∀ W, Below w.heap.size w W → Calls Try.prog 11 #[.agg #[.int .i64 P2, .int .i64 N2, .slice co2 cn2 cc2, .slice oo2 on2 oc2]] W fun e w' => ∃ G : Fv, e = .returned G.v ∧ IsCan ⟨P2, N2, co2, cn2, cc2, oo2, on2, oc2, cs2, os2⟩ G ∧ G.Own w' W.heap.size ∧ Below W.heap.size W w') := C2
  obtain ⟨b, hb⟩ : ∃ b, w.heap.size = b := ⟨_, rfl⟩
  obtain ⟨b2, hb2⟩ : ∃ b2, b + 1 = b2 := ⟨_, rfl⟩
  obtain ⟨wb, hwb⟩ : ∃ wb, (w.alloc (.cells #[.int .i64 P1, .int .i64 N1, .slice co1 cn1 cc1, .slice oo1 on1 oc1] 25)).alloc (.cells #[.int .i64 P2, .int .i64 N2, .slice co2 cn2 cc2, .slice oo2 on2 oc2] 25) = wb := ⟨_, rfl⟩
  have KW : Below w.heap.size w wb := by rw [← hwb]; exact ((Below.refl _ w).alloc (Nat.le_refl _) _).alloc (by simp) _
  have B1 : wb.heap[b]? = some (.cells #[.int .i64 P1, .int .i64 N1, .slice co1 cn1 cc1, .slice oo1 on1 oc1] 25) := by rw [← hwb, ← hb, old_al _ _ (by simp), new_al]
  have B2 : wb.heap[b2]? = some (.cells #[.int .i64 P2, .int .i64 N2, .slice co2 cn2 cc2, .slice oo2 on2 oc2] 25) := by rw [← hwb, ← hb2, ← hb, show w.heap.size + 1 = (w.alloc (.cells #[.int .i64 P1, .int .i64 N1, .slice co1 cn1 cc1, .slice oo1 on1 oc1] 25)).heap.size by simp, new_al]
  have hszb : wb.heap.size = b + 2 := by rw [← hwb, ← hb]; simp
  have HKW := Lib.hid KW
  have HB1 := Lib.hid B1
  have HB2 := Lib.hid B2
  have HSZ := Lib.hid hszb
  show Calls Try.prog 18 #[.agg #[.int .i64 P1, .int .i64 N1, .slice co1 cn1 cc1, .slice oo1 on1 oc1], .agg #[.int .i64 P2, .int .i64 N2, .slice co2 cn2 cc2, .slice oo2 on2 oc2]] w _
  go_enter Try.func18, Try.ntmps18
  go_upto_region 1 with fail
  have HLE : Hid (w.heap.size ≤ b) := Lib.hid (Nat.le_of_eq hb)
  clear hwb hb KW B1 B2 hszb
  go_cut [8] from 5 to 8 (fun s8 wx => Hid (∃ G K : Fv, IsCan ⟨P1, N1, co1, cn1, cc1, oo1, on1, oc1, cs1, os1⟩ G ∧ IsCan ⟨P2, N2, co2, cn2, cc2, oo2, on2, oc2, cs2, os2⟩ K ∧ Fbox G w wx b ∧ Fbox K w wx b2))
  case first =>
    have D1 : Hid (∀ W, Below wb.heap.size wb W → Calls Try.prog 11 #[.agg #[.int .i64 P1, .int .i64 N1, .slice co1 cn1 cc1, .slice oo1 on1 oc1]] W fun e w' => ∃ p n c l k o m j g s, e = .returned (.agg #[.int .i64 p, .int .i64 n, .slice c l k, .slice o m j]) ∧ Hid (IsCan ⟨P1, N1, co1, cn1, cc1, oo1, on1, oc1, cs1, os1⟩ ⟨p, n, c, l, k, o, m, j, g, s⟩ ∧ Fv.Own ⟨p, n, c, l, k, o, m, j, g, s⟩ w' (b + 2)) ∧ Hid (Below wb.heap.size wb w') ∧ Hid (Below W.heap.size W w')) := Lib.hid (fun W h => (C1.out W (HKW.out.trans (h.mono HKW.out.size))).mono (by
      rintro e w' ⟨⟨p, n, c, l, k, o, m, j, g, s⟩, rfl, hc, ho, q⟩
      exact ⟨p, n, c, l, k, o, m, j, g, s, rfl, Lib.hid ⟨hc, ho.mono (by have := h.size; have := HSZ.out; omega)⟩, Lib.hid (h.trans (q.mono h.size)), Lib.hid q⟩))
    have D2 : Hid (∀ W, Below wb.heap.size wb W → Calls Try.prog 11 #[.agg #[.int .i64 P2, .int .i64 N2, .slice co2 cn2 cc2, .slice oo2 on2 oc2]] W fun e w' => ∃ p n c l k o m j g s, e = .returned (.agg #[.int .i64 p, .int .i64 n, .slice c l k, .slice o m j]) ∧ Hid (IsCan ⟨P2, N2, co2, cn2, cc2, oo2, on2, oc2, cs2, os2⟩ ⟨p, n, c, l, k, o, m, j, g, s⟩ ∧ Fv.Own ⟨p, n, c, l, k, o, m, j, g, s⟩ w' (b + 2)) ∧ Hid (Below wb.heap.size wb w') ∧ Hid (Below W.heap.size W w')) := Lib.hid (fun W h => (C2.out W (HKW.out.trans (h.mono HKW.out.size))).mono (by
      rintro e w' ⟨⟨p, n, c, l, k, o, m, j, g, s⟩, rfl, hc, ho, q⟩
      exact ⟨p, n, c, l, k, o, m, j, g, s, rfl, Lib.hid ⟨hc, ho.mono (by have := h.size; have := HSZ.out; omega)⟩, Lib.hid (h.trans (q.mono h.size)), Lib.hid q⟩))
    have HCELL : Hid (∀ W, Below wb.heap.size wb W → W.cell? ⟨b, 0, none⟩ = some (.int .i64 P1) ∧ W.cell? ⟨b, 1, none⟩ = some (.int .i64 N1) ∧ W.cell? ⟨b, 2, none⟩ = some (.slice co1 cn1 cc1) ∧ W.cell? ⟨b, 3, none⟩ = some (.slice oo1 on1 oc1) ∧ W.cell? ⟨b2, 0, none⟩ = some (.int .i64 P2) ∧ W.cell? ⟨b2, 1, none⟩ = some (.int .i64 N2) ∧ W.cell? ⟨b2, 2, none⟩ = some (.slice co2 cn2 cc2) ∧ W.cell? ⟨b2, 3, none⟩ = some (.slice oo2 on2 oc2) ∧ W.frozen? ⟨b, 0, none⟩ = false ∧ W.frozen? ⟨b, 1, none⟩ = false ∧ W.frozen? ⟨b, 2, none⟩ = false ∧ W.frozen? ⟨b, 3, none⟩ = false ∧ W.frozen? ⟨b2, 0, none⟩ = false ∧ W.frozen? ⟨b2, 1, none⟩ = false ∧ W.frozen? ⟨b2, 2, none⟩ = false ∧ W.frozen? ⟨b2, 3, none⟩ = false) := Lib.hid (fun W h => by
      have x1 := (h.block b (by have := HSZ.out; omega)).trans HB1.out
      have x2 := (h.block b2 (by have := HSZ.out; omega)).trans HB2.out
      exact ⟨cell_block x1 0, cell_block x1 1, cell_block x1 2, cell_block x1 3, cell_block x2 0, cell_block x2 1, cell_block x2 2, cell_block x2 3, block_free x1 0, block_free x1 1, block_free x1 2, block_free x1 3, block_free x2 0, block_free x2 1, block_free x2 2, block_free x2 3⟩)
    have HTP : Hid (∀ (W W2 : World) (G K : Fv), Below wb.heap.size wb W → G.Own W (b + 2) → K.Own W (b + 2) → (W2 = (((((((W.setCell ⟨b, 0, none⟩ (.int .i64 G.P)).setCell ⟨b, 1, none⟩ (.int .i64 G.N)).setCell ⟨b, 2, none⟩ (.slice G.co G.cn G.cc)).setCell ⟨b, 3, none⟩ (.slice G.oo G.on G.oc)).setCell ⟨b2, 0, none⟩ (.int .i64 K.P)).setCell ⟨b2, 1, none⟩ (.int .i64 K.N)).setCell ⟨b2, 2, none⟩ (.slice K.co K.cn K.cc)).setCell ⟨b2, 3, none⟩ (.slice K.oo K.on K.oc) ∨
        W2 = (((((((W.setCell ⟨b2, 0, none⟩ (.int .i64 K.P)).setCell ⟨b2, 1, none⟩ (.int .i64 K.N)).setCell ⟨b2, 2, none⟩ (.slice K.co K.cn K.cc)).setCell ⟨b2, 3, none⟩ (.slice K.oo K.on K.oc)).setCell ⟨b, 0, none⟩ (.int .i64 G.P)).setCell ⟨b, 1, none⟩ (.int .i64 G.N)).setCell ⟨b, 2, none⟩ (.slice G.co G.cn G.cc)).setCell ⟨b, 3, none⟩ (.slice G.oo G.on G.oc)) → Fbox G w W2 b ∧ Fbox K w W2 b2) := Lib.hid (fun W W2 G K h hG hK e => by
      have x1 := (h.block b (by have := HSZ.out; omega)).trans HB1.out
      have x2 := (h.block b2 (by have := HSZ.out; omega)).trans HB2.out
      have hs : b + 2 ≤ W.heap.size := by have := h.size; have := HSZ.out; omega
      have hB := HKW.out.trans (h.mono HKW.out.size)
      have hl := HLE.out
      rcases e with e | e
      · exact two_put hG hK (by omega) (by omega) (by omega) hs hl (by omega) hB x1 x2 e
      · exact (two_put hK hG (by omega) (by omega) (by omega) hs (by omega) hl hB x2 x1 e).symm)
    have HB0 := Lib.hid ((Below.refl wb.heap.size wb).drew)
    obtain ⟨a0, a1, a2, a3, a4, a5, a6, a7, z0, z1, z2, z3, z4, z5, z6, z7⟩ := HCELL.out _ HB0.out
    have hne : ¬ b = b2 := by omega
    have hne2 : ¬ b2 = b := by omega
    clear C1 C2
    go_region_with (go_at_call 11; first | ((with_reducible refine (D1.out _ (by first | exact K2.out | exact HB0.out)).mono ?_); rintro e w3 ⟨p1, n1, c1, l1, k1, o1, m1, j1, g1, s1, rfl, HO1, K1, q⟩; obtain ⟨a0, a1, a2, a3, a4, a5, a6, a7, z0, z1, z2, z3, z4, z5, z6, z7⟩ := HCELL.out _ K1.out; try (have HO2 := Lib.hid (⟨HO2.out.1, HO2.out.2.keep q.out⟩ : _ ∧ _)); try clear D1; clear q) | ((with_reducible refine (D2.out _ (by first | exact K1.out | exact HB0.out)).mono ?_); rintro e w4 ⟨p2, n2, c2, l2, k2, o2, m2, j2, g2, s2, rfl, HO2, K2, q⟩; obtain ⟨a0, a1, a2, a3, a4, a5, a6, a7, z0, z1, z2, z3, z4, z5, z6, z7⟩ := HCELL.out _ K2.out; try (have HO1 := Lib.hid (⟨HO1.out.1, HO1.out.2.keep q.out⟩ : _ ∧ _)); try clear D2; clear q))
    all_goals
      go_wp2_with fail
      go_meet
      case rel =>
        first
          | exact Lib.hid ⟨⟨p1, n1, c1, l1, k1, o1, m1, j1, g1, s1⟩, ⟨p2, n2, c2, l2, k2, o2, m2, j2, g2, s2⟩, HO1.out.1, HO2.out.1, HTP.out w4 _ _ _ K2.out HO1.out.2 HO2.out.2 (.inl rfl)⟩
          | exact Lib.hid ⟨⟨p1, n1, c1, l1, k1, o1, m1, j1, g1, s1⟩, ⟨p2, n2, c2, l2, k2, o2, m2, j2, g2, s2⟩, HO1.out.1, HO2.out.1, HTP.out w4 _ _ _ K2.out HO1.out.2 HO2.out.2 (.inr rfl)⟩
          | exact Lib.hid ⟨⟨p1, n1, c1, l1, k1, o1, m1, j1, g1, s1⟩, ⟨p2, n2, c2, l2, k2, o2, m2, j2, g2, s2⟩, HO1.out.1, HO2.out.1, HTP.out w3 _ _ _ K1.out HO1.out.2 HO2.out.2 (.inl rfl)⟩
          | exact Lib.hid ⟨⟨p1, n1, c1, l1, k1, o1, m1, j1, g1, s1⟩, ⟨p2, n2, c2, l2, k2, o2, m2, j2, g2, s2⟩, HO1.out.1, HO2.out.1, HTP.out w3 _ _ _ K1.out HO1.out.2 HO2.out.2 (.inr rfl)⟩
  case rest =>
    obtain ⟨G, K, hG, hK, fG, fK⟩ := hcut.out
    have HE := Lib.hid ((HR.out.trans (HCE.out G K hG hK)))
    have HFG := Lib.hid fG
    have HFK := Lib.hid fK
    clear hG hK fG fK hcut HCE HR C1 C2
    obtain ⟨p1, n1, c1, l1, k1, o1, m1, j1, cG, oG⟩ := G
    obtain ⟨p2, n2, c2, l2, k2, o2, m2, j2, cK, oK⟩ := K
    have HE : Hid (r = true ↔ p1 = p2 ∧ n1 = n2 ∧ cG = cK ∧ oG = oK) := HE
    have e0 : wc.cell? ⟨b, 0, none⟩ = some (.int .i64 p1) := HFG.out.c0
    have e1 : wc.cell? ⟨b, 1, none⟩ = some (.int .i64 n1) := HFG.out.c1
    have e2 : wc.cell? ⟨b, 2, none⟩ = some (.slice c1 l1 k1) := HFG.out.c2
    have e3 : wc.cell? ⟨b, 3, none⟩ = some (.slice o1 m1 j1) := HFG.out.c3
    have f0 : wc.cell? ⟨b2, 0, none⟩ = some (.int .i64 p2) := HFK.out.c0
    have f1 : wc.cell? ⟨b2, 1, none⟩ = some (.int .i64 n2) := HFK.out.c1
    have f2 : wc.cell? ⟨b2, 2, none⟩ = some (.slice c2 l2 k2) := HFK.out.c2
    have f3 : wc.cell? ⟨b2, 3, none⟩ = some (.slice o2 m2 j2) := HFK.out.c3
    by_cases h1 : p1 = p2
    · have t1 : (p1 == p2) = true := by simp; exact h1
      by_cases h2 : n1 = n2
      · have t2 : (n1 == n2) = true := by simp; exact h2
        obtain ⟨r3, hr3⟩ : ∃ r : Bool, r = true ↔ cG = cK := by classical exact ⟨decide _, decide_eq_true_iff⟩
        obtain ⟨r4, hr4⟩ : ∃ r : Bool, r = true ↔ oG = oK := by classical exact ⟨decide _, decide_eq_true_iff⟩
        have HF : Hid ((r3 && r4) = r) := Lib.hid (by
          have : (r3 && r4) = true ↔ r = true := by
            rw [Bool.and_eq_true, hr3, hr4, HE.out]
            exact ⟨fun h => ⟨h1, h2, h.1, h.2⟩, fun h => ⟨h.2.2.1, h.2.2.2⟩⟩
          cases r <;> cases hq : (r3 && r4) <;> simp_all)
        have Q3 := Lib.hid (equalCo_any c1 c2 l1 k1 l2 k2 cG cK wc (show CoAt wc c1 l1 k1 cG from HFG.out.at_.core) (show CoAt wc c2 l2 k2 cK from HFK.out.at_.core) r3 hr3)
        have Q4 := Lib.hid (fun W (h : Below wc.heap.size wc W) => equalOd_any o1 o2 m1 j1 m2 j2 oG oK W ((show OdAt wc o1 m1 j1 oG from HFG.out.at_.odd).keep h) ((show OdAt wc o2 m2 j2 oK from HFK.out.at_.odd).keep h) r4 hr4)
        clear h1 h2 hr3 hr4 HE
        go_wp2_with fail
        (with_reducible refine Q3.out.mono ?_)
        rintro e w3 ⟨rfl, q3⟩
        have HBW := Lib.hid (HFG.out.keep q3).bw
        have e0 := cell_keep e0 q3
        have e1 := cell_keep e1 q3
        have e2 := cell_keep e2 q3
        have e3 := cell_keep e3 q3
        have f0 := cell_keep f0 q3
        have f1 := cell_keep f1 q3
        have f2 := cell_keep f2 q3
        have f3 := cell_keep f3 q3
        have Q4 := Lib.hid (Q4.out _ q3)
        clear q3 Q3
        cases r3
        · go_wp2
          go_returns
          exact ⟨ret_bool (by rw [← HF.out]; rfl), HBW.out⟩
        · go_wp2_with fail
          (with_reducible refine Q4.out.mono ?_)
          rintro e w4 ⟨rfl, q4⟩
          have HBW := Lib.hid (HBW.out.trans (q4.mono HBW.out.size))
          clear q4 Q4
          go_wp2
          go_returns
          exact ⟨ret_bool (by rw [← HF.out]; simp), HBW.out⟩
      · have t2 : (n1 == n2) = false := by simp; exact h2
        have HF : Hid (false = r) := Lib.hid (by
          cases r
          · rfl
          · exact absurd (HE.out.1 rfl).2.1 h2)
        clear h1 h2 HE
        go_wp2
        go_returns
        exact ⟨ret_bool HF.out, HFG.out.bw⟩
    · have t1 : (p1 == p2) = false := by simp; exact h1
      have HF : Hid (false = r) := Lib.hid (by
        cases r
        · rfl
        · exact absurd (HE.out.1 rfl).1 h1)
      clear h1 HE
      go_wp2
      go_returns
      exact ⟨ret_bool HF.out, HFG.out.bw⟩
end Go.Proofs.Ytkhnoikdfelheaa
