/- Contract: AnewForm. -/
import Derived.Test.YtkhnoikdfelheaaC4
import Derived.Deep.AppendLies
namespace Go.Proofs.Ytkhnoikdfelheaa
set_option linter.unusedVariables false
set_option linter.unusedSimpArgs false
open Go.ChangeShapes Go.WideShapes Go.ChangeAt Go.RowKit
/-- A new form under way. -/
structure An (F : Fv) (w0 w : World) (b ro bo B : Nat) (vc vo : Value) : Prop where
  cp : Cp F w0 w bo ro B vc vo
  box : w.heap[b]? = some (.cells F.box 25 (0, 0))
  hb : b < B
  n1 : b ≠ bo
theorem An.grown {F : Fv} {w0 w w' : World} {b ro bo B : Nat} {vc vo : Value} {row : Option Nat} (h : An F w0 w b ro bo B vc vo) (hg : w.grownBy w' row) (hr : ∀ q, row = some q → B ≤ q) : An F w0 w' b ro bo B vc vo :=
  ⟨h.cp.grown hg hr, (hg.block b (Nat.lt_of_lt_of_le h.hb h.cp.sz) (fun e => by have := hr b e.symm; have := h.hb; omega)).trans h.box, h.hb, h.n1⟩
theorem An.keep {F : Fv} {w0 w w' : World} {b ro bo B : Nat} {vc vo : Value} (h : An F w0 w b ro bo B vc vo) (k : Below w.heap.size w w') : An F w0 w' b ro bo B vc vo := h.grown (grown_of_below k) (fun q e => by cases e)
theorem An.put2 {F : Fv} {w0 w : World} {b ro bo B : Nat} {vc vo : Value} (h : An F w0 w b ro bo B vc vo) (u : Value) : An F w0 (w.setCell ⟨bo, 2, none⟩ u) b ro bo B u vo :=
  ⟨h.cp.put2 u, ((grown_cell w ⟨bo, 2, none⟩ u).block b (Nat.lt_of_lt_of_le h.hb h.cp.sz) (fun e => by cases e; exact h.n1 rfl)).trans h.box, h.hb, h.n1⟩
theorem An.put3 {F : Fv} {w0 w : World} {b ro bo B : Nat} {vc vo : Value} (h : An F w0 w b ro bo B vc vo) (u : Value) : An F w0 (w.setCell ⟨bo, 3, none⟩ u) b ro bo B vc u :=
  ⟨h.cp.put3 u, ((grown_cell w ⟨bo, 3, none⟩ u).block b (Nat.lt_of_lt_of_le h.hb h.cp.sz) (fun e => by cases e; exact h.n1 rfl)).trans h.box, h.hb, h.n1⟩
theorem An.boxc {F : Fv} {w0 w : World} {b ro bo B : Nat} {vc vo : Value} (h : An F w0 w b ro bo B vc vo) (k : Nat) : w.cell? ⟨b, k, none⟩ = F.box[k]? := cell_block h.box k
/-- A set more. -/
theorem co_push {w w' : World} {B i : Nat} {v v' : Value} {xs : List Value} {u : Value} {ls : List (List Sp)} {L : List Sp} (h0 : w.ownsRow B 31 1 v i xs) (hg : w.grownBy w' v.ownBlock) (hr : w'.ownsRow B 31 1 v' (i + 1) (xs ++ [u])) (hl : ls.length = i) (hi : ∀ j (h : j < ls.length), ∃ u, xs[j]? = some u ∧ w.ownsRow B 46 2 u ls[j].length (spCells ls[j])) (hu : w.ownsRow B 46 2 u L.length (spCells L)) : CoOwn w' B v' (i + 1) (ls ++ [L]) := by
  have off : Off w B 46 v.ownBlock := fun q e => by obtain ⟨cur, t⟩ := own_typed h0 e; exact .inr ⟨cur, 31, t, by decide⟩
  have hx : xs.length = i := by have := h0.1; omega
  refine ⟨by simp [hl], _, hr, fun j hj => ?_⟩
  by_cases q : j < ls.length
  · obtain ⟨u', a, b⟩ := hi j q
    exact ⟨u', by rw [List.getElem?_append_left (by omega)]; exact a, by rw [List.getElem_append_left q]; exact own_off b hg off⟩
  · have e : j = ls.length := by simp at hj; omega
    subst e
    exact ⟨u, by rw [List.getElem?_append_right (by omega)]; simp [hx, hl], by simpa using own_off hu hg off⟩
theorem od_push {w w' : World} {B i : Nat} {v v' : Value} {xs : List Value} {u : Value} {os : List Gr} {X : Int} {L : List Sp} (h0 : w.ownsRow B 43 2 v i xs) (hg : w.grownBy w' v.ownBlock) (hr : w'.ownsRow B 43 2 v' (i + 1) (xs ++ [.int .i64 X, u])) (hl : os.length = i) (hi : ∀ j (h : j < os.length), xs[j * 2]? = some (.int .i64 os[j].1) ∧ (∃ u, xs[j * 2 + 1]? = some u ∧ w.ownsRow B 46 2 u os[j].2.length (spCells os[j].2)) ∧ -9223372036854775808 ≤ os[j].1 ∧ os[j].1 ≤ 9223372036854775807) (hu : w.ownsRow B 46 2 u L.length (spCells L)) (hX : -9223372036854775808 ≤ X ∧ X ≤ 9223372036854775807) : OdOwn w' B v' (i + 1) (os ++ [(X, L)]) := by
  have off : Off w B 46 v.ownBlock := fun q e => by obtain ⟨cur, t⟩ := own_typed h0 e; exact .inr ⟨cur, 43, t, by decide⟩
  have hx : xs.length = i * 2 := h0.1
  refine ⟨by simp [hl], _, hr, fun j hj => ?_⟩
  by_cases q : j < os.length
  · obtain ⟨z, ⟨u', a, b⟩, y⟩ := hi j q
    rw [List.getElem_append_left q]
    exact ⟨by rw [List.getElem?_append_left (by omega)]; exact z, ⟨u', by rw [List.getElem?_append_left (by omega)]; exact a, own_off b hg off⟩, y⟩
  · have e : j = i := by simp at hj; omega
    subst e
    have e2 : (os ++ [(X, L)])[j] = (X, L) := by simp [hl]
    rw [e2]
    refine ⟨?_, ⟨u, ?_, own_off hu hg off⟩, hX⟩
    · rw [List.getElem?_append_right (by omega), hx]; simp
    · rw [List.getElem?_append_right (by omega), hx, show j * 2 + 1 - j * 2 = 1 by omega]; rfl
set_option maxRecDepth 8000 in
set_option maxHeartbeats 4000000 in
theorem anewForm_any (F : Fv) (w : World) (hF : F.At w) (h1 : F.cn ≤ 1000000) (h2 : F.on ≤ 1000000) (h3 : ∀ l ∈ F.cs, l.length ≤ 1000000) (h4 : ∀ o ∈ F.os, o.2.length ≤ 1000000) :
    Calls Try.prog 10 #[F.v] w fun e w' => ∃ vc vo, e = .returned (.agg #[.int .i64 F.P, .int .i64 F.N, vc, vo]) ∧ Hid (CoOwn w' w.heap.size vc F.cn F.cs ∧ OdOwn w' w.heap.size vo F.on F.os) ∧ Hid (Below w.heap.size w w') := by
  obtain ⟨j0, hj, hjz0, hjz1, hjz2⟩ := info_parts info31
  obtain ⟨k0, hk, hkz0, hkz1, hkz2⟩ := info_parts info43
  have HJ := Lib.hid hj
  have HJ0 := Lib.hid hjz0
  have HJ1 := Lib.hid hjz1
  have HJ2 := Lib.hid hjz2
  have HK := Lib.hid hk
  have HK0 := Lib.hid hkz0
  have HK1 := Lib.hid hkz1
  have HK2 := Lib.hid hkz2
  clear hj hjz0 hjz1 hjz2 hk hkz0 hkz1 hkz2
  obtain ⟨P, N, co, cn, cc, oo, on, oc, cs, os⟩ := F
  have LC : Hid (cs.length = cn) := Lib.hid hF.core.len
  have LO : Hid (os.length = on) := Lib.hid hF.odd.len
  have h1 : cn ≤ 1000000 := h1
  have h2 : on ≤ 1000000 := h2
  have S1 : Hid (∀ l ∈ cs, l.length ≤ 1000000) := Lib.hid h3
  have S2 : Hid (∀ o ∈ os, o.2.length ≤ 1000000) := Lib.hid h4
  have hmc : cn ≤ 9223372036854775807 := by omega
  have hmo : on ≤ 9223372036854775807 := by omega
  clear h3 h4
  have HF := Lib.hid hF
  clear hF
  show Calls Try.prog 10 #[.agg #[.int .i64 P, .int .i64 N, .slice co cn cc, .slice oo on oc]] w _
  go_enter Try.func10, Try.ntmps10
  go_upto_region 1 with fail
  obtain ⟨b, hb⟩ : ∃ b, w.heap.size = b := ⟨_, rfl⟩
  have HW1 : Hid (∀ W, (w.alloc (.cells #[.int .i64 P, .int .i64 N, .slice co cn cc, .slice oo on oc] 25)).alloc (.cells #[.int .i64 0, .int .i64 0, .slice none 0 0, .slice none 0 0] 25) = W → W.cell? ⟨b, 0, none⟩ = some (.int .i64 P) ∧ W.cell? ⟨b, 1, none⟩ = some (.int .i64 N)) := Lib.hid (fun W e => by
    have h : W.heap[b]? = some (.cells #[.int .i64 P, .int .i64 N, .slice co cn cc, .slice oo on oc] 25) := by rw [← e, ← hb, heap_alloc_old _ _ (by simp), heap_alloc_new]
    exact ⟨cell_block h 0, cell_block h 1⟩)
  obtain ⟨e0, e1⟩ := HW1.out _ rfl
  go_upto_region 2 with fail
  rw [hb]
  obtain ⟨ro, hro⟩ : ∃ ro, b + 1 = ro := ⟨_, rfl⟩
  obtain ⟨bo, hbo⟩ : ∃ bo, ro + 1 = bo := ⟨_, rfl⟩
  generalize hwc : ((w.alloc (.cells #[.int .i64 P, .int .i64 N, .slice co cn cc, .slice oo on oc] 25)).alloc (.cells #[.int .i64 0, .int .i64 0, .slice none 0 0, .slice none 0 0] 25)).alloc (.cells #[.int .i64 P, .int .i64 N, .slice none 0 0, .slice none 0 0] 25) = wc
  have HA : Hid (An ⟨P, N, co, cn, cc, oo, on, oc, cs, os⟩ w wc b ro bo (b + 3) (.slice none 0 0) (.slice none 0 0)) := Lib.hid (by
    refine ⟨⟨HF.out, ?_, by omega, by omega, by omega, by omega, by omega, ?_, ?_, ?_⟩, ?_, by omega, by omega⟩
    · rw [← hwc]; exact (((Below.refl _ w).alloc (Nat.le_refl _) _).alloc (by simp) _).alloc (by simp; omega) _
    · rw [← hwc]; simp; omega
    · rw [← hwc, ← hbo, ← hro, show b + 1 + 1 = ((w.alloc (.cells #[.int .i64 P, .int .i64 N, .slice co cn cc, .slice oo on oc] 25)).alloc (.cells #[.int .i64 0, .int .i64 0, .slice none 0 0, .slice none 0 0] 25)).heap.size by simp; omega, heap_alloc_new]
    · rw [← hwc, ← hro, heap_alloc_old _ _ (by simp; omega), show b + 1 = (w.alloc (.cells #[.int .i64 P, .int .i64 N, .slice co cn cc, .slice oo on oc] 25)).heap.size by simp; omega, heap_alloc_new]
    · rw [← hwc, ← hb, heap_alloc_old _ _ (by simp; omega), heap_alloc_old _ _ (by simp), heap_alloc_new])
  have HLO : Hid (w.heap.size = b) := Lib.hid hb
  rw [hro, hbo]
  clear hwc HW1 e0 e1 hb hro hbo HF
  have e2 : wc.cell? ⟨b, 2, none⟩ = some (.slice co cn cc) := HA.out.boxc 2
  go_wp2
  clear e2
  have H0 : Hid (∃ vc, CoOwn wc (b + 3) vc 0 (cs.take 0) ∧ An ⟨P, N, co, cn, cc, oo, on, oc, cs, os⟩ w wc b ro bo (b + 3) vc (.slice none 0 0)) := Lib.hid ⟨_, ⟨rfl, [], World.ownsRow_nil _ _ _ _, fun i hi => absurd hi (Nat.not_lt_zero _)⟩, HA.out⟩
  clear HA
  go_loopw [16] (fun ii wr => ∃ i : Nat, i ≤ cn ∧ ii = .int .i64 i ∧ Hid (∃ vc, CoOwn wr (b + 3) vc i (cs.take i) ∧ An ⟨P, N, co, cn, cc, oo, on, oc, cs, os⟩ w wr b ro bo (b + 3) vc (.slice none 0 0))) (fun ii _ => cn - (intOf ii).toNat)
  case atStart => exact ⟨0, Nat.zero_le _, rfl, H0⟩
  case round =>
    obtain ⟨i, hi, rfl, HW⟩ := hrel
    clear H0
    obtain ⟨vc, hco, han⟩ := HW.out
    have HCO := Lib.hid hco
    have HA := Lib.hid han
    clear HW hco han
    by_cases ilt : i < cn
    · obtain ⟨q, p, rfl, hc⟩ := (show CoAt wr co cn cc cs from HA.out.cp.f.core.keep HA.out.cp.bw).here (by omega)
      have hil : i < cs.length := by rw [LC.out]; exact ilt
      obtain ⟨o, m, d, z1, y2⟩ := hc i hil
      have m1 : m ≤ 1000000 := by rw [← y2.len]; exact S1.out _ (List.getElem_mem hil)
      have HCL := Lib.hid (fun W (h : Below wr.heap.size wr W) => anew_any o m d (cs[i]'hil) m1 W (y2.keep h))
      have HML := Lib.hid y2.len
      obtain ⟨T, hT⟩ : ∃ T, cs.take (i + 1) = T := ⟨_, rfl⟩
      have HTS : Hid (T = cs.take i ++ [(cs[i]'hil)]) := Lib.hid (by rw [← hT, List.take_succ_eq_append_getElem hil])
      obtain ⟨L, hL⟩ : ∃ q, (cs[i]'hil) = q := ⟨_, rfl⟩
      rw [hL] at HCL HML HTS
      have HT := Lib.hid hT
      have i0 : (0 : Int) ≤ (i : Int) := by omega
      have i1 : (i : Int) < (cn : Int) := by omega
      clear hc y2 hL hT
      clear hil
      have e2 : wr.cell? ⟨bo, 2, none⟩ = some vc := HA.out.cp.cell 2
      have f2 := HA.out.cp.free 2
      have HBR := Lib.hid ((Below.refl wr.heap.size wr).drew)
      obtain ⟨xs, hx1, hx2⟩ := HCO.out.row
      have HX1 := Lib.hid hx1
      have HX2 := Lib.hid hx2
      have HTL : Hid ((cs.take i).length = i) := Lib.hid HCO.out.len
      clear hx1 hx2
      go_upto_region 5 with fail
      go_region_law (first
        | (go_simp; go_at_call 24; (with_reducible refine (HCL.out _ HBR.out).mono ?_); rintro e w3 ⟨v, rfl, z, q⟩; obtain ⟨a3, c3, rfl, _⟩ := own_sp HML.out z; have q2 := Lib.hid (HBR.out.trans q); have HZ := Lib.hid z; have e2 := cell_keep e2 q2.out; have e2a := cell_keep e2 ((Below.refl _ w3).alloc (Nat.le_refl _) (.cells #[.slice a3 m c3] 31)); clear q z)
        | ((refine step_append_lies _ rfl _ _ 22 rfl (b + 3) 31 j0 (.slice none 0 0) 1 24 Try.underlying22 HJ.out HJ0.out HJ1.out HJ2.out rfl (by decide) vc i xs rfl ((keepB HX1.out q2.out).alloc _) ⟨w3.heap.size, 0, none⟩ 1 1 [.slice a3 m c3] rfl rfl (World.news_of_block (cs := #[.slice a3 m c3]) (t := 31) (fr := (0, 0)) (heap_alloc_new w3 _)) (by simp [Value.oneCell']) (by omega) (by unfold maxLen; omega) (by omega) (by have := (HA.out.keep q2.out).cp.sz; simp; omega) _ rfl ?_); intro g2 cap w4 hown hgrow hat hlt; have HA4 := Lib.hid (((HA.out.keep q2.out).keep ((Below.refl _ w3).alloc (Nat.le_refl _) _)).grown hgrow (fun q e => (HX1.out.lt q e).1)); have e2 := HA4.out.cp.cell 2; have f2 := HA4.out.cp.free 2; have HO4 := Lib.hid hown; have HG4 := Lib.hid hgrow; clear hown hgrow hat hlt)
        | fail)
      all_goals
        have HN : Hid (∃ vc, CoOwn (w4.setCell ⟨bo, 2, none⟩ (.slice (some ⟨g2, 0, none⟩) (i + 1) cap)) (b + 3) vc (i + 1) T ∧ An ⟨P, N, some ⟨q, p, none⟩, cn, cc, oo, on, oc, cs, os⟩ w (w4.setCell ⟨bo, 2, none⟩ (.slice (some ⟨g2, 0, none⟩) (i + 1) cap)) b ro bo (b + 3) vc (.slice none 0 0)) := Lib.hid (by
          have hsz := HA.out.cp.sz
          have k1 := HBR.out.size
          refine ⟨_, ?_, HA4.out.put2 _⟩
          rw [HTS.out]
          refine (co_push ((keepB HX1.out q2.out).alloc _) HG4.out HO4.out HTL.out (fun j hj => ?_) (by rw [HML.out]; exact (own_base HZ.out (Nat.le_trans hsz k1)).alloc _)).grown (grown_cell w4 ⟨bo, 2, none⟩ _) (fun q e => .inl (by cases e; exact HA.out.cp.hi)) (fun q e => .inl (by cases e; exact HA.out.cp.hi))
          obtain ⟨u, a, bb⟩ := HX2.out j hj
          exact ⟨u, a, (keepB bb q2.out).alloc _⟩)
        generalize hw5 : w4.setCell ⟨bo, 2, none⟩ (.slice (some ⟨g2, 0, none⟩) (i + 1) cap) = w5
        rw [hw5] at HN
        clear hw5 HZ f2 e2 q2 HA4 HG4 HO4 HCL HX1 HX2 HCO HA e2a HTS HBR z1
        go_wp2
        go_roundw
        case rel => exact ⟨i + 1, by omega, by go_num, by rw [HT.out]; exact HN⟩
        case measure => simp [intOf]; omega
    · obtain rfl : cn = i := by omega
      have HCC : Hid (CoOwn wr (b + 3) vc cn cs) := Lib.hid (by
        have h := HCO.out
        rw [List.take_of_length_le (by rw [LC.out]; exact Nat.le_refl _)] at h
        exact h)
      clear HCO
      have e3 : wr.cell? ⟨b, 3, none⟩ = some (.slice oo on oc) := HA.out.boxc 3
      go_wp2
      clear e3
      have H0 : Hid (∃ vo, OdOwn wr (b + 3) vo 0 (os.take 0) ∧ CoOwn wr (b + 3) vc cn cs ∧ An ⟨P, N, co, cn, cc, oo, on, oc, cs, os⟩ w wr b ro bo (b + 3) vc vo) := Lib.hid ⟨_, ⟨rfl, [], World.ownsRow_nil _ _ _ _, fun i hi => absurd hi (Nat.not_lt_zero _)⟩, HCC.out, HA.out⟩
      clear HA HCC
      go_loopw [31] (fun ii wr => ∃ i : Nat, i ≤ on ∧ ii = .int .i64 i ∧ Hid (∃ vo, OdOwn wr (b + 3) vo i (os.take i) ∧ CoOwn wr (b + 3) vc cn cs ∧ An ⟨P, N, co, cn, cc, oo, on, oc, cs, os⟩ w wr b ro bo (b + 3) vc vo)) (fun ii _ => on - (intOf ii).toNat)
      case atStart => exact ⟨0, Nat.zero_le _, rfl, H0⟩
      case round =>
        obtain ⟨i, hi, rfl, HW⟩ := hrel
        clear H0
        obtain ⟨vo, hod, hco, han⟩ := HW.out
        have HOD := Lib.hid hod
        have HCO := Lib.hid hco
        have HA := Lib.hid han
        clear HW hco han hod
        by_cases ilt : i < on
        · obtain ⟨q, p, rfl, hc⟩ := (show OdAt wr oo on oc os from HA.out.cp.f.odd.keep HA.out.cp.bw).here (by omega)
          have hil : i < os.length := by rw [LO.out]; exact ilt
          obtain ⟨z0, ⟨o, m, d, z1, y2⟩, x1, x2⟩ := hc i hil
          have m1 : m ≤ 1000000 := by rw [← y2.len]; exact S2.out _ (List.getElem_mem hil)
          have HCL := Lib.hid (fun W (h : Below wr.heap.size wr W) => anew_any o m d (os[i]'hil).2 m1 W (y2.keep h))
          have HML := Lib.hid y2.len
          obtain ⟨T, hT⟩ : ∃ T, os.take (i + 1) = T := ⟨_, rfl⟩
          have HTS : Hid (T = os.take i ++ [((os[i]'hil).1, (os[i]'hil).2)]) := Lib.hid (by rw [← hT, List.take_succ_eq_append_getElem hil])
          obtain ⟨L, hL⟩ : ∃ q, (os[i]'hil).2 = q := ⟨_, rfl⟩
          obtain ⟨X, hX⟩ : ∃ q, (os[i]'hil).1 = q := ⟨_, rfl⟩
          rw [hL] at HCL HML
          rw [hL, hX] at HTS
          rw [hX] at z0 x1 x2
          have HT := Lib.hid hT
          have i0 : (0 : Int) ≤ (i : Int) := by omega
          have i1 : (i : Int) < (on : Int) := by omega
          clear hc y2 hL hT hX
          clear hil
          go_upto_region 10 with fail
          have KA := Lib.hid ((Below.refl _ wr).alloc (Nat.le_refl _) (.cells #[.int .i64 X, .slice o m d] 43))
          have u0 := (box_cells wr (.int .i64 X) (.slice o m d) 43).1
          have u1 := (box_cells wr (.int .i64 X) (.slice o m d) 43).2
          obtain ⟨bx, hbx⟩ : ∃ q, wr.heap.size = q := ⟨_, rfl⟩
          have HCL := Lib.hid (fun W (h : Below (wr.alloc (.cells #[.int .i64 X, .slice o m d] 43)).heap.size (wr.alloc (.cells #[.int .i64 X, .slice o m d] 43)) W) => HCL.out W (KA.out.trans (h.mono KA.out.size)))
          generalize hwx : wr.alloc (.cells #[.int .i64 X, .slice o m d] 43) = wx
          rw [hwx] at KA u0 u1 HCL
          rw [hbx] at u0 u1
          rw [hbx]
          have HOD := Lib.hid (HOD.out.keep KA.out)
          have HCO := Lib.hid (HCO.out.keep KA.out)
          have HA := Lib.hid (HA.out.keep KA.out)
          clear KA hwx hbx z0 z1
          have e2 : wx.cell? ⟨bo, 3, none⟩ = some vo := HA.out.cp.cell 3
          have f2 := HA.out.cp.free 3
          have HBR := Lib.hid ((Below.refl wx.heap.size wx).drew)
          obtain ⟨xs, hx1, hx2⟩ := HOD.out.row
          have HX1 := Lib.hid hx1
          have HX2 := Lib.hid hx2
          have HTL : Hid ((os.take i).length = i) := Lib.hid HOD.out.len
          clear hx1 hx2
          go_region_law (first
            | (go_simp; go_at_call 24; (with_reducible refine (HCL.out _ HBR.out).mono ?_); rintro e w3 ⟨v, rfl, z, qq⟩; obtain ⟨a3, c3, rfl, _⟩ := own_sp HML.out z; have q2 := Lib.hid (HBR.out.trans qq); have HZ := Lib.hid z; have e2 := cell_keep e2 q2.out; have u0 := cell_keep u0 q2.out; have u1 := cell_keep u1 q2.out; have e2a := cell_keep e2 ((Below.refl _ w3).alloc (Nat.le_refl _) (.cells #[.int .i64 X, .slice a3 m c3] 43)); clear qq z)
            | ((refine step_append_lies _ rfl _ _ 23 rfl (b + 3) 43 k0 (.agg #[.int .i64 0, .slice none 0 0]) 2 32 Try.underlying23 HK.out HK0.out HK1.out HK2.out rfl (by decide) vo i xs rfl ((keepB HX1.out q2.out).alloc _) ⟨w3.heap.size, 0, none⟩ 1 1 [.int .i64 X, .slice a3 m c3] rfl rfl (World.news_of_block (cs := #[.int .i64 X, .slice a3 m c3]) (t := 43) (fr := (0, 0)) (heap_alloc_new w3 _)) (by simp [Value.oneCell']) (by omega) (by unfold maxLen; omega) (by omega) (by have := (HA.out.keep q2.out).cp.sz; simp; omega) _ rfl ?_); intro g2 cap w4 hown hgrow hat hlt; have HA4 := Lib.hid (((HA.out.keep q2.out).keep ((Below.refl _ w3).alloc (Nat.le_refl _) _)).grown hgrow (fun q e => (HX1.out.lt q e).1)); have e2 := HA4.out.cp.cell 3; have f2 := HA4.out.cp.free 3; have HO4 := Lib.hid hown; have HG4 := Lib.hid hgrow; clear hown hgrow hat hlt)
            | fail)
          all_goals
            have HN : Hid (∃ vo, OdOwn (w4.setCell ⟨bo, 3, none⟩ (.slice (some ⟨g2, 0, none⟩) (i + 1) cap)) (b + 3) vo (i + 1) T ∧ CoOwn (w4.setCell ⟨bo, 3, none⟩ (.slice (some ⟨g2, 0, none⟩) (i + 1) cap)) (b + 3) vc cn cs ∧ An ⟨P, N, co, cn, cc, some ⟨q, p, none⟩, on, oc, cs, os⟩ w (w4.setCell ⟨bo, 3, none⟩ (.slice (some ⟨g2, 0, none⟩) (i + 1) cap)) b ro bo (b + 3) vc vo) := Lib.hid (by
              have hsz := HA.out.cp.sz
              have k1 := HBR.out.size
              have off : ∀ e : Nat, 43 ≠ e → Off (w3.alloc (.cells #[.int .i64 X, .slice a3 m c3] 43)) (b + 3) e vo.ownBlock := fun e he q z => by
                obtain ⟨cur, t⟩ := own_typed ((keepB HX1.out q2.out).alloc (.cells #[.int .i64 X, .slice a3 m c3] 43)) z
                exact .inr ⟨cur, 43, t, he⟩
              refine ⟨_, ?_, ((((HCO.out.keep q2.out).keep ((Below.refl _ w3).alloc (Nat.le_refl _) _)).grown HG4.out (off _ (by decide)) (off _ (by decide)))).grown (grown_cell w4 ⟨bo, 3, none⟩ _) (fun q e => .inl (by cases e; exact HA.out.cp.hi)) (fun q e => .inl (by cases e; exact HA.out.cp.hi)), HA4.out.put3 _⟩
              rw [HTS.out]
              refine (od_push ((keepB HX1.out q2.out).alloc _) HG4.out HO4.out HTL.out (fun j hj => ?_) (by rw [HML.out]; exact (own_base HZ.out (Nat.le_trans hsz k1)).alloc _) ⟨x1, x2⟩).grown (grown_cell w4 ⟨bo, 3, none⟩ _) (fun q e => .inl (by cases e; exact HA.out.cp.hi)) (fun q e => .inl (by cases e; exact HA.out.cp.hi))
              obtain ⟨y, ⟨u, a, bb⟩, c⟩ := HX2.out j hj
              exact ⟨y, ⟨u, a, (keepB bb q2.out).alloc _⟩, c⟩)
            generalize hw5 : w4.setCell ⟨bo, 3, none⟩ (.slice (some ⟨g2, 0, none⟩) (i + 1) cap) = w5
            rw [hw5] at HN
            clear hw5 HZ f2 e2 q2 HA4 HG4 HO4 HCL HX1 HX2 HCO HA e2a HTS HBR u0 u1 HOD
            go_wp2
            go_roundw
            case rel => exact ⟨i + 1, by omega, by go_num, by rw [HT.out]; exact HN⟩
            case measure => simp [intOf]; omega
        · obtain rfl : on = i := by omega
          have HOO : Hid (OdOwn wr (b + 3) vo on os) := Lib.hid (by
            have h := HOD.out
            rw [List.take_of_length_le (by rw [LO.out]; exact Nat.le_refl _)] at h
            exact h)
          obtain ⟨ao, c2, rfl, _⟩ := HCO.out.vs
          obtain ⟨qo, q2c, rfl, _⟩ := HOO.out.vs
          have e0 : wr.cell? ⟨bo, 0, none⟩ = some (.int .i64 P) := HA.out.cp.cell 0
          have e1 : wr.cell? ⟨bo, 1, none⟩ = some (.int .i64 N) := HA.out.cp.cell 1
          have e2 : wr.cell? ⟨bo, 2, none⟩ = some (.slice ao cn c2) := HA.out.cp.cell 2
          have e3 : wr.cell? ⟨bo, 3, none⟩ = some (.slice qo on q2c) := HA.out.cp.cell 3
          have r0 := HA.out.cp.resc 0
          have r1 := HA.out.cp.resc 1
          have r2 := HA.out.cp.resc 2
          have r3 := HA.out.cp.resc 3
          have f0 := HA.out.cp.rfree 0
          have f1 := HA.out.cp.rfree 1
          have f2 := HA.out.cp.rfree 2
          have f3 := HA.out.cp.rfree 3
          go_wp2_with fail
          have HRS := Lib.hid (put_four HA.out.cp.res (.int .i64 P) (.int .i64 N) (.slice ao cn c2) (.slice qo on q2c))
          have HGF := Lib.hid (grown_four wr ro (.int .i64 P) (.int .i64 N) (.slice ao cn c2) (.slice qo on q2c))
          generalize hwf : (((wr.setCell ⟨ro, 0, none⟩ (.int .i64 P)).setCell ⟨ro, 1, none⟩ (.int .i64 N)).setCell ⟨ro, 2, none⟩ (.slice ao cn c2)).setCell ⟨ro, 3, none⟩ (.slice qo on q2c) = wf
          rw [hwf] at HRS HGF
          clear hwf e0 e1 e2 e3 r0 r1 r2 r3 f0 f1 f2 f3
          have HC2 := Lib.hid (HCO.out.grown HGF.out (fun q e => .inl (by cases e; exact HA.out.cp.hi2)) (fun q e => .inl (by cases e; exact HA.out.cp.hi2)))
          have HO2 := Lib.hid (HOO.out.grown HGF.out (fun q e => .inl (by cases e; exact HA.out.cp.hi2)) (fun q e => .inl (by cases e; exact HA.out.cp.hi2)))
          have HBW := Lib.hid (HA.out.cp.bw.grown HGF.out HA.out.cp.bw.size (fun q e => by cases e; exact HA.out.cp.lo2))
          have r0 : wf.cell? ⟨ro, 0, none⟩ = some (.int .i64 P) := cell_block HRS.out 0
          have r1 : wf.cell? ⟨ro, 1, none⟩ = some (.int .i64 N) := cell_block HRS.out 1
          have r2 : wf.cell? ⟨ro, 2, none⟩ = some (.slice ao cn c2) := cell_block HRS.out 2
          have r3 : wf.cell? ⟨ro, 3, none⟩ = some (.slice qo on q2c) := cell_block HRS.out 3
          have hle : w.heap.size ≤ b + 3 := by have := HLO.out; omega
          exact bodyPost_ret (v := .agg #[.int .i64 P, .int .i64 N, .slice ao cn c2, .slice qo on q2c]) (by simp [results, Try.results10, go_sem, r0, r1, r2, r3]) rfl ⟨_, _, rfl, Lib.hid ⟨HC2.out.mono hle, HO2.out.mono hle⟩, HBW⟩
end Go.Proofs.Ytkhnoikdfelheaa
