/- M8 in one. -/
import Derived.Test.YtmjapbjjfhmohaaKs
import Derived.Test.YtmjapbjjfhmohaaKk
import Derived.Deep.CutRange
import Derived.StillTailTactics
namespace Go.Proofs.Ytmjapbjjfhmohaa
set_option linter.unusedVariables false
set_option linter.unusedSimpArgs false
open Go.ChangeShapes Go.WideShapes Go.ChangeAt Go.RowKit
/-- The canonical form under way. -/
structure Fo (F : Fv) (p n : Int) (w0 w : World) (b ro bo B : Nat) (vc vo : Value) : Prop where
  f : F.At w0
  ex : ∃ G : Fv, G.P = p ∧ G.N = n ∧ Cp G w0 w bo ro B vc vo
  box : w.heap[b]? = some (.cells F.box 25 (0, 0))
  hb : b < B
  n1 : b ≠ bo
theorem Fo.sz {F : Fv} {p n : Int} {w0 w : World} {b ro bo B : Nat} {vc vo : Value} (h : Fo F p n w0 w b ro bo B vc vo) : B ≤ w.heap.size := by obtain ⟨G, _, _, c⟩ := h.ex; exact c.sz
theorem Fo.hi {F : Fv} {p n : Int} {w0 w : World} {b ro bo B : Nat} {vc vo : Value} (h : Fo F p n w0 w b ro bo B vc vo) : bo < B := by obtain ⟨G, _, _, c⟩ := h.ex; exact c.hi
theorem Fo.hi2 {F : Fv} {p n : Int} {w0 w : World} {b ro bo B : Nat} {vc vo : Value} (h : Fo F p n w0 w b ro bo B vc vo) : ro < B := by obtain ⟨G, _, _, c⟩ := h.ex; exact c.hi2
theorem Fo.lo2 {F : Fv} {p n : Int} {w0 w : World} {b ro bo B : Nat} {vc vo : Value} (h : Fo F p n w0 w b ro bo B vc vo) : w0.heap.size ≤ ro := by obtain ⟨G, _, _, c⟩ := h.ex; exact c.lo2
theorem Fo.bw {F : Fv} {p n : Int} {w0 w : World} {b ro bo B : Nat} {vc vo : Value} (h : Fo F p n w0 w b ro bo B vc vo) : Below w0.heap.size w0 w := by obtain ⟨G, _, _, c⟩ := h.ex; exact c.bw
theorem Fo.grown {F : Fv} {p n : Int} {w0 w w' : World} {b ro bo B : Nat} {vc vo : Value} {row : Option Nat} (h : Fo F p n w0 w b ro bo B vc vo) (hg : w.grownBy w' row) (hr : ∀ q, row = some q → B ≤ q) : Fo F p n w0 w' b ro bo B vc vo := by
  have hs := h.sz
  obtain ⟨f, ⟨G, e1, e2, c⟩, box, hb, n1⟩ := h
  exact ⟨f, ⟨G, e1, e2, c.grown hg hr⟩, (hg.block b (Nat.lt_of_lt_of_le hb hs) (fun e => by have := hr b e.symm; omega)).trans box, hb, n1⟩
theorem Fo.keep {F : Fv} {p n : Int} {w0 w w' : World} {b ro bo B : Nat} {vc vo : Value} (h : Fo F p n w0 w b ro bo B vc vo) (k : Below w.heap.size w w') : Fo F p n w0 w' b ro bo B vc vo := h.grown (grown_of_below k) (fun q e => by cases e)
theorem Fo.put3 {F : Fv} {p n : Int} {w0 w : World} {b ro bo B : Nat} {vc vo : Value} (h : Fo F p n w0 w b ro bo B vc vo) (u : Value) : Fo F p n w0 (w.setCell ⟨bo, 3, none⟩ u) b ro bo B vc u := by
  have hs := h.sz
  obtain ⟨f, ⟨G, e1, e2, c⟩, box, hb, n1⟩ := h
  exact ⟨f, ⟨G, e1, e2, c.put3 u⟩, ((grown_cell w ⟨bo, 3, none⟩ u).block b (Nat.lt_of_lt_of_le hb hs) (fun e => by cases e; exact n1 rfl)).trans box, hb, n1⟩
theorem Fo.boxc {F : Fv} {p n : Int} {w0 w : World} {b ro bo B : Nat} {vc vo : Value} (h : Fo F p n w0 w b ro bo B vc vo) (k : Nat) : w.cell? ⟨b, k, none⟩ = F.box[k]? := cell_block h.box k
theorem Fo.cell {F : Fv} {p n : Int} {w0 w : World} {b ro bo B : Nat} {vc vo : Value} (h : Fo F p n w0 w b ro bo B vc vo) (k : Nat) : w.cell? ⟨bo, k, none⟩ = (#[.int .i64 p, .int .i64 n, vc, vo] : Array Value)[k]? := by
  obtain ⟨G, e1, e2, c⟩ := h.ex
  rw [← e1, ← e2]; exact c.cell k
theorem Fo.free {F : Fv} {p n : Int} {w0 w : World} {b ro bo B : Nat} {vc vo : Value} (h : Fo F p n w0 w b ro bo B vc vo) (k : Nat) : w.frozen? ⟨bo, k, none⟩ = false := by obtain ⟨G, _, _, c⟩ := h.ex; exact c.free k
theorem Fo.resc {F : Fv} {p n : Int} {w0 w : World} {b ro bo B : Nat} {vc vo : Value} (h : Fo F p n w0 w b ro bo B vc vo) (k : Nat) : w.cell? ⟨ro, k, none⟩ = (#[.int .i64 0, .int .i64 0, .slice none 0 0, .slice none 0 0] : Array Value)[k]? := by obtain ⟨G, _, _, c⟩ := h.ex; exact c.resc k
theorem Fo.rfree {F : Fv} {p n : Int} {w0 w : World} {b ro bo B : Nat} {vc vo : Value} (h : Fo F p n w0 w b ro bo B vc vo) (k : Nat) : w.frozen? ⟨ro, k, none⟩ = false := by obtain ⟨G, _, _, c⟩ := h.ex; exact c.rfree k
theorem Fo.res {F : Fv} {p n : Int} {w0 w : World} {b ro bo B : Nat} {vc vo : Value} (h : Fo F p n w0 w b ro bo B vc vo) : w.heap[ro]? = some (.cells #[.int .i64 0, .int .i64 0, .slice none 0 0, .slice none 0 0] 25 (0, 0)) := by obtain ⟨G, _, _, c⟩ := h.ex; exact c.res
/-- All four cells written. -/
theorem Fo.put4 {F : Fv} {p n p' n' : Int} {w0 w : World} {b ro bo B : Nat} {vc vo vc' vo' : Value} (h : Fo F p n w0 w b ro bo B vc vo) (G' : Fv) (hG : G'.At w0) (e1 : G'.P = p') (e2 : G'.N = n') : Fo F p' n' w0 ((((w.setCell ⟨bo, 0, none⟩ (.int .i64 p')).setCell ⟨bo, 1, none⟩ (.int .i64 n')).setCell ⟨bo, 2, none⟩ vc').setCell ⟨bo, 3, none⟩ vo') b ro bo B vc' vo' := by
  have hs := h.sz
  have hg := grown_four w bo (.int .i64 p') (.int .i64 n') vc' vo'
  obtain ⟨f, ⟨G, _, _, c⟩, box, hb, n1⟩ := h
  refine ⟨f, ⟨G', e1, e2, ⟨hG, c.bw.grown hg c.bw.size (fun k hk => by cases hk; exact c.lo), c.lo, c.lo2, c.hi, c.hi2, c.ne, Nat.le_trans c.sz hg.size, ?_, (hg.block ro (Nat.lt_of_lt_of_le c.hi2 c.sz) (fun e => by cases e; exact c.ne rfl)).trans c.res⟩⟩, (hg.block b (Nat.lt_of_lt_of_le hb hs) (fun e => by cases e; exact n1 rfl)).trans box, hb, n1⟩
  rw [put_four c.blk, e1, e2]
theorem co_take {w : World} {ao : Option Addr} {n c d : Nat} {ls : List (List Sp)} (h : CoAt w ao n c ls) (hd : d ≤ n) (h0 : 0 < d) : CoAt w ao d c (ls.take d) := by
  have hl := h.len
  refine ⟨by rw [List.length_take]; omega, Nat.le_trans hd h.le, h.top, fun e => by have := h.bare e; omega, fun _ => ?_⟩
  obtain ⟨b, p, e, hc⟩ := h.here (by omega)
  refine ⟨b, p, e, fun i hi => ?_⟩
  have hi2 : i < ls.length := by rw [List.length_take] at hi; omega
  rw [List.getElem_take]
  exact hc i hi2
theorem od_none (w : World) : OdAt w none 0 0 [] := ⟨rfl, Nat.le_refl _, by omega, fun _ => ⟨rfl, rfl⟩, fun h => absurd h (Nat.lt_irrefl _)⟩
theorem co_none (w : World) : CoAt w none 0 0 [] := ⟨rfl, Nat.le_refl _, by omega, fun _ => ⟨rfl, rfl⟩, fun h => absurd h (Nat.lt_irrefl _)⟩
def Fv.zero : Fv := ⟨0, 0, none, 0, 0, none, 0, 0, [], []⟩
theorem Fv.zero_at (w : World) : Fv.zero.At w := ⟨by decide, by decide, by decide, by decide, co_none w, od_none w, ⟨(fun l h => by cases h), (fun o h => by cases h)⟩⟩
/-- The exceptions that are not as the core would have it. -/
def notUsual (cs : List (List Sp)) (P N : Int) (l : List Gr) : List Gr := l.filter (fun o => !(decide (o.2 = cg cs P N o.1)))
theorem notUsual_yes {cs : List (List Sp)} {P N : Int} {os : List Gr} {i : Nat} (hi : i < os.length) (h : os[i].2 = cg cs P N os[i].1) : notUsual cs P N (os.take (i + 1)) = notUsual cs P N (os.take i) := by
  unfold notUsual
  rw [List.take_succ_eq_append_getElem hi, List.filter_append]
  simp [h]
theorem notUsual_no {cs : List (List Sp)} {P N : Int} {os : List Gr} {i : Nat} (hi : i < os.length) (h : ¬ os[i].2 = cg cs P N os[i].1) : notUsual cs P N (os.take (i + 1)) = notUsual cs P N (os.take i) ++ [(os[i].1, os[i].2)] := by
  unfold notUsual
  rw [List.take_succ_eq_append_getElem hi, List.filter_append]
  simp [h]
theorem old_al (w : World) (o : Obj) {r : Nat} (h : r < w.heap.size) : (w.alloc o).heap[r]? = w.heap[r]? := Below.heap_alloc w o r h
theorem new_al (w : World) (o : Obj) : (w.alloc o).heap[w.heap.size]? = some o := World.alloc_heap_new w o
set_option maxRecDepth 8000 in
set_option maxHeartbeats 4000000 in
theorem form_right (F : Fv) (w : World) (hF : F.At w) (ok : F.Ok) (hr : ∀ W, F.At W → Calls Try.prog 18 #[F.v] W fun e w' => e = .returned (.int .i64 0) ∧ Below W.heap.size W w') :
    Calls Try.prog 16 #[F.v] w fun e w' => ∃ (d : Nat) (vc vo : Value), e = .returned (.agg #[.int .i64 (canP F.P F.N d), .int .i64 (d : Int), vc, vo]) ∧ Hid (IsTurn F.cs F.P F.N d) ∧ Hid (CoOwn w' w.heap.size vc d (F.cs.take d) ∧ OdOwn w' w.heap.size vo (canOs F).length (canOs F)) ∧ Hid (Below w.heap.size w w') := by
  obtain ⟨k0, hk, hkz0, hkz1, hkz2⟩ := info_parts info52
  have HK := Lib.hid hk
  have HK0 := Lib.hid hkz0
  have HK1 := Lib.hid hkz1
  have HK2 := Lib.hid hkz2
  clear hk hkz0 hkz1 hkz2
  have HOK := Lib.hid ok
  have HR := Lib.hid (hr)
  have HTU := Lib.hid (fun W (h : F.At W) => turn_any F W h ok)
  have HUS := Lib.hid (fun W (h : F.At W) X lo lm ld L (hL : SpAt W lo lm ld L) gL hX r hr => usual_any F X lo lm ld L W h ok hL gL hX r hr)
  have hmeas := ok.meas
  obtain ⟨P, N, co, cn, cc, oo, on, oc, cs, os⟩ := F
  have LC : Hid (cs.length = cn) := Lib.hid hF.core.len
  have LO : Hid (os.length = on) := Lib.hid hF.odd.len
  have h1 : cn ≤ 1000000 := ok.cn
  have h2 : on ≤ 1000000 := ok.on
  have hmeas : (N = 0 ∧ P = 0 ∧ cn = 0) ∨ (N ≠ 0 ∧ N = cn ∧ 1 ≤ P ∧ P ≤ 1099511627776) := hmeas
  have S2 : Hid (∀ o ∈ os, o.2.length ≤ 1000000) := Lib.hid ok.lenO
  have S1 : Hid (∀ l ∈ cs, l.length ≤ 1000000) := Lib.hid ok.lenC
  have HOD := Lib.hid ok.odd
  have HOD : Hid (OddOk os) := HOD
  have hmc : cn ≤ 9223372036854775807 := by omega
  have hmo : on ≤ 9223372036854775807 := by omega
  have HF := Lib.hid hF
  clear hF hr ok
  have HR : Hid (∀ W, Fv.At ⟨P, N, co, cn, cc, oo, on, oc, cs, os⟩ W → Calls Try.prog 18 #[.agg #[.int .i64 P, .int .i64 N, .slice co cn cc, .slice oo on oc]] W fun e w' => e = .returned (.int .i64 0) ∧ Below W.heap.size W w') := HR
  have HTU : Hid (∀ W, Fv.At ⟨P, N, co, cn, cc, oo, on, oc, cs, os⟩ W → Calls Try.prog 35 #[.agg #[.int .i64 P, .int .i64 N, .slice co cn cc, .slice oo on oc]] W fun e w' => ∃ d : Nat, e = .returned (.int .i64 (d : Int)) ∧ IsTurn cs P N d ∧ Below W.heap.size W w') := HTU
  have HUS : Hid (∀ W, Fv.At ⟨P, N, co, cn, cc, oo, on, oc, cs, os⟩ W → ∀ X lo lm ld L, SpAt W lo lm ld L → Good L → InR X → ∀ r : Bool, (r = true ↔ L = cg cs P N X) → Calls Try.prog 38 #[.agg #[.int .i64 P, .int .i64 N, .slice co cn cc, .slice oo on oc], .agg #[.int .i64 X, .slice lo lm ld]] W fun e w' => e = .returned (.bool r) ∧ Below W.heap.size W w') := HUS
  obtain ⟨b, hb⟩ : ∃ b, w.heap.size = b := ⟨_, rfl⟩
  obtain ⟨ro, hro⟩ : ∃ ro, b + 1 = ro := ⟨_, rfl⟩
  obtain ⟨wc, hwc⟩ : ∃ wc, (w.alloc (.cells #[.int .i64 P, .int .i64 N, .slice co cn cc, .slice oo on oc] 25)).alloc (.cells #[.int .i64 0, .int .i64 0, .slice none 0 0, .slice none 0 0] 25) = wc := ⟨_, rfl⟩
  have B0 : wc.heap[b]? = some (.cells #[.int .i64 P, .int .i64 N, .slice co cn cc, .slice oo on oc] 25) := by rw [← hwc, ← hb, old_al _ _ (by simp), new_al]
  have R0 : wc.heap[ro]? = some (.cells #[.int .i64 0, .int .i64 0, .slice none 0 0, .slice none 0 0] 25) := by rw [← hwc, ← hro, ← hb, show w.heap.size + 1 = (w.alloc (.cells #[.int .i64 P, .int .i64 N, .slice co cn cc, .slice oo on oc] 25)).heap.size by simp, new_al]
  have KC : Below w.heap.size w wc := by rw [← hwc]; exact ((Below.refl _ w).alloc (Nat.le_refl _) _).alloc (by simp) _
  have ZC : wc.heap.size = b + 2 := by rw [← hwc, ← hb]; simp
  have HFC := Lib.hid (HF.out.keep KC)
  have e0 : wc.cell? ⟨b, 0, none⟩ = some (.int .i64 P) := cell_block B0 0
  have e1 : wc.cell? ⟨b, 1, none⟩ = some (.int .i64 N) := cell_block B0 1
  have e2 : wc.cell? ⟨b, 2, none⟩ = some (.slice co cn cc) := cell_block B0 2
  have e3 : wc.cell? ⟨b, 3, none⟩ = some (.slice oo on oc) := cell_block B0 3
  show Calls Try.prog 16 #[.agg #[.int .i64 P, .int .i64 N, .slice co cn cc, .slice oo on oc]] w _
  go_enter Try.func16, Try.ntmps16
  go_wp2_with fail
  (with_reducible refine (HR.out _ HFC.out).mono ?_)
  rintro e w1 ⟨rfl, q1⟩
  obtain ⟨bo, hbo⟩ : ∃ bo, w1.heap.size = bo := ⟨_, rfl⟩
  obtain ⟨w2, hw2⟩ : ∃ w2, w1.alloc (.cells #[.int .i64 0, .int .i64 0, .slice none 0 0, .slice none 0 0] 25) = w2 := ⟨_, rfl⟩
  have hb1 := q1.size
  have HA : Hid (Fo ⟨P, N, co, cn, cc, oo, on, oc, cs, os⟩ 0 0 w w2 b ro bo (bo + 1) (.slice none 0 0) (.slice none 0 0)) := Lib.hid (by
    have K2 : Below w1.heap.size w1 w2 := by rw [← hw2]; exact (Below.refl _ w1).alloc (Nat.le_refl _) _
    refine ⟨HF.out, ⟨Fv.zero, rfl, rfl, ⟨Fv.zero_at _, (KC.trans (q1.mono KC.size)).trans (K2.mono (Nat.le_trans KC.size q1.size)), by omega, by omega, by omega, by omega, by omega, ?_, ?_, ?_⟩⟩, ?_, by omega, by omega⟩
    · rw [← hw2]; simp; omega
    · rw [← hw2, ← hbo, new_al]; rfl
    · exact (K2.block ro (by omega)).trans ((q1.block ro (by omega)).trans R0)
    · exact (K2.block b (by omega)).trans ((q1.block b (by omega)).trans B0))
  have HLO : Hid (w.heap.size ≤ bo + 1) := Lib.hid (by omega)
  clear q1 hb1 B0 R0 KC ZC HFC e0 e1 e2 e3 HR hwc hb hro
  have e0 : w2.cell? ⟨b, 0, none⟩ = some (.int .i64 P) := HA.out.boxc 0
  have e1 : w2.cell? ⟨b, 1, none⟩ = some (.int .i64 N) := HA.out.boxc 1
  have e2 : w2.cell? ⟨b, 2, none⟩ = some (.slice co cn cc) := HA.out.boxc 2
  have e3 : w2.cell? ⟨b, 3, none⟩ = some (.slice oo on oc) := HA.out.boxc 3
  go_wp2_with fail
  clear hbo hw2
  (with_reducible refine (HTU.out _ (HF.out.keep HA.out.bw)).mono ?_)
  rintro e w3 ⟨d, rfl, hT, q3⟩
  have HA := Lib.hid (HA.out.keep q3)
  have HT := Lib.hid hT
  clear q3 hT HTU e0 e1 e2 e3
  go_upto_if 14 with fail
  go_cut [28] from 13 to 28 (fun s28 wx => Hid (∃ vc vo, CoOwn wx (bo + 1) vc d (cs.take d) ∧ OdOwn wx (bo + 1) vo 0 [] ∧ Fo ⟨P, N, co, cn, cc, oo, on, oc, cs, os⟩ (canP P N d) (d : Int) w wx b ro bo (bo + 1) vc vo))
  case first =>
    by_cases d0 : d = 0
    · subst d0
      have t0 : ¬ (0 : Int) < ((0 : Nat) : Int) := by omega
      have HZ : Hid (∃ vc vo, CoOwn w3 (bo + 1) vc 0 (cs.take 0) ∧ OdOwn w3 (bo + 1) vo 0 [] ∧ Fo ⟨P, N, co, cn, cc, oo, on, oc, cs, os⟩ (canP P N 0) ((0 : Nat) : Int) w w3 b ro bo (bo + 1) vc vo) := Lib.hid ⟨_, _, ⟨rfl, [], World.ownsRow_nil _ _ _ _, fun i hi => absurd hi (Nat.not_lt_zero _)⟩, ⟨rfl, [], World.ownsRow_nil _ _ _ _, fun i hi => absurd hi (Nat.not_lt_zero _)⟩, HA.out⟩
      go_wp2_with fail
      go_meet
      case rel => exact HZ
    · have t0 : (0 : Int) < (d : Int) := by omega
      have HTO : Hid (TurnOk cs P N d) := Lib.hid (by
        rcases HT.out with ⟨h, _⟩ | ⟨_, h, _⟩
        · exact absurd h d0
        · exact h)
      have hd1 : d ≤ cs.length := by
        rcases HT.out with ⟨h, _⟩ | ⟨hs, h, _⟩
        · exact absurd h d0
        · rcases meas_full HOK.out.meas LC.out with q | q
          · exact turn_le q h
          · have q : cs = [] := q
            obtain ⟨l, hl, _⟩ := hs; rw [q] at hl; cases hl
      rw [LC.out] at hd1
      have hm2 : N = (cn : Int) ∧ 1 ≤ P ∧ P ≤ 1099511627776 := by
        rcases hmeas with ⟨_, _, h⟩ | ⟨_, h1, h2, h3⟩
        · omega
        · exact ⟨h1, h2, h3⟩
      obtain ⟨m1, m2, m3⟩ := hm2
      subst m1
      have q0 : 0 ≤ P * (d : Int) := Int.mul_nonneg (by omega) (by omega)
      have q1 : P * (d : Int) ≤ 1099511627776000000 := by
        have a1 : P * (d : Int) ≤ 1099511627776 * (d : Int) := Int.mul_le_mul_of_nonneg_right m3 (by omega)
        omega
      have r3 : (cn : Int) ≠ 0 := by omega
      have r4 : ¬ (P * (d : Int) = -9223372036854775808 ∧ (cn : Int) = -1) := by omega
      obtain ⟨y, hy⟩ : ∃ y, P * (d : Int) / (cn : Int) = y := ⟨_, rfl⟩
      have y0 : 0 ≤ y := by rw [← hy]; exact Int.ediv_nonneg q0 (by omega)
      have y1 : y ≤ 1099511627776000000 := by
        have : y ≤ P * (d : Int) := by rw [← hy]; exact Int.ediv_le_self _ q0
        omega
      have HCP : Hid (canP P (cn : Int) d = y) := Lib.hid (by unfold canP; rw [if_neg d0]; exact hy)
      have d00 : 0 < d := by omega
      have hsh : (∀ l ∈ cs.take d, l.length ≤ 10000000000000) ∧ ∀ o ∈ ([] : List Gr), o.2.length ≤ 10000000000000 := ⟨fun l hl => Nat.le_trans (S1.out l (List.mem_of_mem_take hl)) (by decide), fun o h => by cases h⟩
      have HG : Hid (Fv.At ⟨y, (d : Int), co, d, cc, none, 0, 0, cs.take d, []⟩ w) := Lib.hid ⟨(by show -9223372036854775808 ≤ y; omega), (by show y ≤ 9223372036854775807; omega), (by show -9223372036854775808 ≤ (d : Int); omega), (by show (d : Int) ≤ 9223372036854775807; omega), co_take HF.out.core hd1 d00, od_none w, hsh⟩
      have HCY := Lib.hid (fun W (h : Below w.heap.size w W) => copy_any ⟨y, (d : Int), co, d, cc, none, 0, 0, cs.take d, []⟩ W (HG.out.keep h) (by show d ≤ _; omega) (by show 0 ≤ _; omega) (fun l hl => S1.out l (List.mem_of_mem_take hl)) (fun o h => by cases h))
      have HCY : Hid (∀ W, Below w.heap.size w W → Calls Try.prog 39 #[.agg #[.int .i64 y, .int .i64 (d : Int), .slice co d cc, .slice none 0 0]] W fun e w' => ∃ vc vo, e = .returned (.agg #[.int .i64 y, .int .i64 (d : Int), vc, vo]) ∧ Hid (CoOwn w' W.heap.size vc d (cs.take d) ∧ OdOwn w' W.heap.size vo 0 []) ∧ Hid (Below W.heap.size W w')) := HCY
      obtain ⟨gc, pc, hco, _⟩ := HF.out.core.here (by show 0 < cn; omega)
      have hco : co = some ⟨gc, pc, none⟩ := hco
      subst hco
      have hcc : cn ≤ cc := HF.out.core.le
      have hcm : cc ≤ 9223372036854775807 := HF.out.core.top
      have e0 : w3.cell? ⟨b, 0, none⟩ = some (.int .i64 P) := HA.out.boxc 0
      have e1 : w3.cell? ⟨b, 1, none⟩ = some (.int .i64 (cn : Int)) := HA.out.boxc 1
      have e2 : w3.cell? ⟨b, 2, none⟩ = some (.slice (some ⟨gc, pc, none⟩) cn cc) := HA.out.boxc 2
      have dc1 : (d : Int) ≤ (cc : Int) := by omega
      have dd0 : (0 : Int) ≤ (d : Int) := by omega
      have hW : IntKind.i64.wrap (P * (d : Int)) = P * (d : Int) := IntWalk.i64_in _ (by omega)
      have hQ : IntKind.i64.wrap (Int.tdiv (P * (d : Int)) (cn : Int)) = y := by rw [Int.tdiv_eq_ediv_of_nonneg q0, hy, IntWalk.i64_in _ (by omega)]
      have hc0 : ¬ cn = 0 := by omega
      go_wp2_with fail
      go_still_tail 13, (by kernel_rfl)
      change wpList _ _ _ _ _ w3.drew
      have HA4 := Lib.hid (HA.out.keep (Below.refl _ w3).drew)
      generalize w3.drew = w4 at HA4
      clear HA e0 e1 e2 hW hQ
      go_wp2_with fail
      (with_reducible refine (HCY.out _ HA4.out.bw).mono ?_)
      rintro e w5 ⟨vc, vo, rfl, q1, q2⟩
      have HCO := Lib.hid (q1.out.1.mono HA4.out.sz)
      have HOO := Lib.hid (q1.out.2.mono HA4.out.sz)
      have HA := Lib.hid (HA4.out.keep q2.out)
      clear q1 q2 HA4 HCY
      obtain ⟨a3, c3, rfl, _⟩ := HCO.out.vs
      obtain ⟨a4, c4, rfl, _⟩ := HOO.out.vs
      have z0 := HA.out.cell 0
      have z1 := HA.out.cell 1
      have z2 := HA.out.cell 2
      have z3 := HA.out.cell 3
      have f0 := HA.out.free 0
      have f1 := HA.out.free 1
      have f2 := HA.out.free 2
      have f3 := HA.out.free 3
      have HGF := Lib.hid (grown_four w5 bo (.int .i64 y) (.int .i64 (d : Int)) (.slice a3 d c3) (.slice a4 0 c4))
      have HP4 := Lib.hid (HA.out.put4 (vc' := .slice a3 d c3) (vo' := .slice a4 0 c4) ⟨y, (d : Int), some ⟨gc, pc, none⟩, d, cc, none, 0, 0, cs.take d, []⟩ HG.out (p' := y) (n' := (d : Int)) rfl rfl)
      have HZ : Hid (∃ vc vo, CoOwn ((((w5.setCell ⟨bo, 0, none⟩ (.int .i64 y)).setCell ⟨bo, 1, none⟩ (.int .i64 (d : Int))).setCell ⟨bo, 2, none⟩ (.slice a3 d c3)).setCell ⟨bo, 3, none⟩ (.slice a4 0 c4)) (bo + 1) vc d (cs.take d) ∧ OdOwn ((((w5.setCell ⟨bo, 0, none⟩ (.int .i64 y)).setCell ⟨bo, 1, none⟩ (.int .i64 (d : Int))).setCell ⟨bo, 2, none⟩ (.slice a3 d c3)).setCell ⟨bo, 3, none⟩ (.slice a4 0 c4)) (bo + 1) vo 0 [] ∧ Fo ⟨P, (cn : Int), some ⟨gc, pc, none⟩, cn, cc, oo, on, oc, cs, os⟩ (canP P (cn : Int) d) (d : Int) w ((((w5.setCell ⟨bo, 0, none⟩ (.int .i64 y)).setCell ⟨bo, 1, none⟩ (.int .i64 (d : Int))).setCell ⟨bo, 2, none⟩ (.slice a3 d c3)).setCell ⟨bo, 3, none⟩ (.slice a4 0 c4)) b ro bo (bo + 1) vc vo) :=
        Lib.hid ⟨_, _, HCO.out.grown HGF.out (fun q e => .inl (by cases e; omega)) (fun q e => .inl (by cases e; omega)), HOO.out.grown HGF.out (fun q e => .inl (by cases e; omega)) (fun q e => .inl (by cases e; omega)), by rw [HCP.out]; exact HP4.out⟩
      clear HGF HP4 HCO HOO
      go_wp2_with fail
      go_meet
      case rel => exact HZ
  case rest =>
    obtain ⟨vc, vo0, hco, hoo, hfo⟩ := hcut.out
    obtain ⟨p, hp⟩ : ∃ p, canP P N d = p := ⟨_, rfl⟩
    rw [hp] at hfo
    have HPP := Lib.hid hp
    have H0 : Hid (∃ vo k, k ≤ 0 ∧ OdOwn wc (bo + 1) vo k (notUsual cs P N (os.take 0)) ∧ CoOwn wc (bo + 1) vc d (cs.take d) ∧ Fo ⟨P, N, co, cn, cc, oo, on, oc, cs, os⟩ p (d : Int) w wc b ro bo (bo + 1) vc vo) := Lib.hid ⟨vo0, 0, Nat.le_refl _, hoo, hco, hfo⟩
    have e3 : wc.cell? ⟨b, 3, none⟩ = some (.slice oo on oc) := hfo.boxc 3
    clear hcut hco hoo hfo hp hmeas HA
    go_wp2
    clear e3
    go_loopw [32] (fun ii wr => ∃ i : Nat, i ≤ on ∧ ii = .int .i64 i ∧ Hid (∃ vo k, k ≤ i ∧ OdOwn wr (bo + 1) vo k (notUsual cs P N (os.take i)) ∧ CoOwn wr (bo + 1) vc d (cs.take d) ∧ Fo ⟨P, N, co, cn, cc, oo, on, oc, cs, os⟩ p (d : Int) w wr b ro bo (bo + 1) vc vo)) (fun ii _ => on - (intOf ii).toNat)
    case atStart => exact ⟨0, Nat.zero_le _, rfl, H0⟩
    case round =>
      obtain ⟨i, hi, rfl, HW⟩ := hrel
      clear H0
      obtain ⟨vo, k, hki, hod, hco, han⟩ := HW.out
      have HOW := Lib.hid hod
      have HCO := Lib.hid hco
      have HA := Lib.hid han
      clear HW hco han hod
      by_cases ilt : i < on
      · obtain ⟨q, p0, rfl, hc⟩ := (show OdAt wr oo on oc os from HF.out.odd.keep HA.out.bw).here (by omega)
        have hil : i < os.length := by rw [LO.out]; exact ilt
        obtain ⟨z0, ⟨o, m, dd, z1, y2⟩, x1, x2⟩ := hc i hil
        have m1 : m ≤ 1000000 := by rw [← y2.len]; exact S2.out _ (List.getElem_mem hil)
        have hgd := HOD.out.good _ (List.getElem_mem hil)
        obtain ⟨r, hr⟩ : ∃ r : Bool, r = true ↔ (os[i]'hil).2 = cg cs P N (os[i]'hil).1 := by classical exact ⟨decide _, decide_eq_true_iff⟩
        have HML := Lib.hid y2.len
        have HYES : Hid (r = true → notUsual cs P N (os.take (i + 1)) = notUsual cs P N (os.take i)) := Lib.hid (fun h => notUsual_yes hil (hr.1 h))
        have HNO : Hid (r = false → notUsual cs P N (os.take (i + 1)) = notUsual cs P N (os.take i) ++ [((os[i]'hil).1, (os[i]'hil).2)]) := Lib.hid (fun h => notUsual_no hil (fun z => by rw [hr.2 z] at h; cases h))
        obtain ⟨T, hT⟩ : ∃ T, notUsual cs P N (os.take (i + 1)) = T := ⟨_, rfl⟩
        obtain ⟨T0, hT0⟩ : ∃ T, notUsual cs P N (os.take i) = T := ⟨_, rfl⟩
        rw [hT, hT0] at HYES HNO
        rw [hT0] at HOW
        have HT2 := Lib.hid hT
        have HUX := Lib.hid (fun W (h : Below wr.heap.size wr W) (hF : Fv.At ⟨P, N, co, cn, cc, some ⟨q, p0, none⟩, on, oc, cs, os⟩ W) => HUS.out W hF (os[i]'hil).1 o m dd (os[i]'hil).2 (y2.keep h) hgd.1 hgd.2 r hr)
        have HCL := Lib.hid (fun W (h : Below wr.heap.size wr W) => clone_any o m dd (os[i]'hil).2 m1 W (y2.keep h))
        obtain ⟨L, hL⟩ : ∃ q, (os[i]'hil).2 = q := ⟨_, rfl⟩
        obtain ⟨X, hX⟩ : ∃ q, (os[i]'hil).1 = q := ⟨_, rfl⟩
        rw [hL] at HCL HML
        rw [hL, hX] at HNO
        rw [hX] at z0 x1 x2 HUX
        have i0 : (0 : Int) ≤ (i : Int) := by omega
        have i1 : (i : Int) < (on : Int) := by omega
        clear hc y2 hL hT hT0 hX hr hgd
        clear hil
        go_upto_region 10 with fail
        have KA := Lib.hid ((Below.refl _ wr).alloc (Nat.le_refl _) (.cells #[.int .i64 X, .slice o m dd] 52))
        have u0 := (box_cells wr (.int .i64 X) (.slice o m dd) 52).1
        have u1 := (box_cells wr (.int .i64 X) (.slice o m dd) 52).2
        obtain ⟨bx, hbx⟩ : ∃ q, wr.heap.size = q := ⟨_, rfl⟩
        generalize hwx : wr.alloc (.cells #[.int .i64 X, .slice o m dd] 52) = wx
        rw [hwx] at KA u0 u1
        rw [hbx] at u0 u1
        rw [hbx]
        have HCL := Lib.hid (fun W (h : Below wx.heap.size wx W) => HCL.out W (KA.out.trans (h.mono KA.out.size)))
        have HOW := Lib.hid (HOW.out.keep KA.out)
        have HCO := Lib.hid (HCO.out.keep KA.out)
        have HA := Lib.hid (HA.out.keep KA.out)
        have HUY := Lib.hid (HUX.out wx KA.out (HF.out.keep HA.out.bw))
        clear KA hwx hbx z0 z1 HUX
        have e0 : wx.cell? ⟨b, 0, none⟩ = some (.int .i64 P) := HA.out.boxc 0
        have e1 : wx.cell? ⟨b, 1, none⟩ = some (.int .i64 N) := HA.out.boxc 1
        have e2 : wx.cell? ⟨b, 2, none⟩ = some (.slice co cn cc) := HA.out.boxc 2
        have e3 : wx.cell? ⟨b, 3, none⟩ = some (.slice (some ⟨q, p0, none⟩) on oc) := HA.out.boxc 3
        go_wp2_with fail
        (with_reducible refine HUY.out.mono ?_)
        rintro e wy ⟨rfl, qy⟩
        have HCL := Lib.hid (fun W (h : Below wy.heap.size wy W) => HCL.out W (qy.trans (h.mono qy.size)))
        have HOW := Lib.hid (HOW.out.keep qy)
        have HCO := Lib.hid (HCO.out.keep qy)
        have HA := Lib.hid (HA.out.keep qy)
        have u0 := cell_keep u0 qy
        have u1 := cell_keep u1 qy
        clear qy HUY e0 e1 e2 e3
        cases r
        · have HNT := Lib.hid (HNO.out rfl)
          clear HYES HNO
          have e2 : wy.cell? ⟨bo, 3, none⟩ = some vo := HA.out.cell 3
          have f2 := HA.out.free 3
          have HBR := Lib.hid ((Below.refl wy.heap.size wy).drew)
          obtain ⟨xs, hx1, hx2⟩ := HOW.out.row
          have HX1 := Lib.hid hx1
          have HX2 := Lib.hid hx2
          have HTL : Hid (T0.length = k) := Lib.hid HOW.out.len
          clear hx1 hx2
          go_upto_region 11 with fail
          go_region_law (first
            | (go_simp; go_at_call 40; (with_reducible refine (HCL.out _ HBR.out).mono ?_); rintro e w3 ⟨v, rfl, z, qq⟩; obtain ⟨a3, c3, rfl, _⟩ := own_sp HML.out z; have q2 := Lib.hid (HBR.out.trans qq); have HZ := Lib.hid z; have e2 := cell_keep e2 q2.out; have u0 := cell_keep u0 q2.out; have u1 := cell_keep u1 q2.out; have e2a := cell_keep e2 ((Below.refl _ w3).alloc (Nat.le_refl _) (.cells #[.int .i64 X, .slice a3 m c3] 52)); clear qq z)
            | ((refine step_append_lies _ rfl _ _ 23 rfl (bo + 1) 52 k0 (.agg #[.int .i64 0, .slice none 0 0]) 2 32 Try.underlying23 HK.out HK0.out HK1.out HK2.out rfl (by decide) vo k xs rfl ((keepB HX1.out q2.out).alloc _) ⟨w3.heap.size, 0, none⟩ 1 1 [.int .i64 X, .slice a3 m c3] rfl rfl (World.news_of_block (cs := #[.int .i64 X, .slice a3 m c3]) (t := 52) (fr := (0, 0)) (World.alloc_heap_new w3 _)) (by simp [Value.oneCell']) (by omega) (by unfold maxLen; omega) (by omega) (by have := (HA.out.keep q2.out).sz; simp; omega) _ rfl ?_); intro g2 cap w4 hown hgrow hat hlt; have HA4 := Lib.hid (((HA.out.keep q2.out).keep ((Below.refl _ w3).alloc (Nat.le_refl _) _)).grown hgrow (fun q e => (HX1.out.lt q e).1)); have e2 := HA4.out.cell 3; have f2 := HA4.out.free 3; have HO4 := Lib.hid hown; have HG4 := Lib.hid hgrow; clear hown hgrow hat hlt)
            | fail)
          all_goals
            have HN : Hid (∃ vo kk, kk ≤ i + 1 ∧ OdOwn (w4.setCell ⟨bo, 3, none⟩ (.slice (some ⟨g2, 0, none⟩) (k + 1) cap)) (bo + 1) vo kk T ∧ CoOwn (w4.setCell ⟨bo, 3, none⟩ (.slice (some ⟨g2, 0, none⟩) (k + 1) cap)) (bo + 1) vc d (cs.take d) ∧ Fo ⟨P, N, co, cn, cc, some ⟨q, p0, none⟩, on, oc, cs, os⟩ p (d : Int) w (w4.setCell ⟨bo, 3, none⟩ (.slice (some ⟨g2, 0, none⟩) (k + 1) cap)) b ro bo (bo + 1) vc vo) := Lib.hid (by
              have hsz := HA.out.sz
              have k1 := HBR.out.size
              have off : ∀ e : Nat, 52 ≠ e → Off (w3.alloc (.cells #[.int .i64 X, .slice a3 m c3] 52)) (bo + 1) e vo.ownBlock := fun e he q z => by
                obtain ⟨cur, t⟩ := own_typed ((keepB HX1.out q2.out).alloc (.cells #[.int .i64 X, .slice a3 m c3] 52)) z
                exact .inr ⟨cur, 52, t, he⟩
              refine ⟨_, k + 1, by omega, ?_, ((((HCO.out.keep q2.out).keep ((Below.refl _ w3).alloc (Nat.le_refl _) _)).grown HG4.out (off _ (by decide)) (off _ (by decide)))).grown (grown_cell w4 ⟨bo, 3, none⟩ _) (fun q e => .inl (by cases e; exact HA.out.hi)) (fun q e => .inl (by cases e; exact HA.out.hi)), HA4.out.put3 _⟩
              rw [HNT.out]
              refine (od_push ((keepB HX1.out q2.out).alloc _) HG4.out HO4.out HTL.out (fun j hj => ?_) (by rw [HML.out]; exact (own_base HZ.out (Nat.le_trans hsz k1)).alloc _) ⟨x1, x2⟩).grown (grown_cell w4 ⟨bo, 3, none⟩ _) (fun q e => .inl (by cases e; exact HA.out.hi)) (fun q e => .inl (by cases e; exact HA.out.hi))
              obtain ⟨y, ⟨u, a, bb⟩, c⟩ := HX2.out j hj
              exact ⟨y, ⟨u, a, (keepB bb q2.out).alloc _⟩, c⟩)
            generalize hw5 : w4.setCell ⟨bo, 3, none⟩ (.slice (some ⟨g2, 0, none⟩) (k + 1) cap) = w5
            rw [hw5] at HN
            clear hw5 HZ f2 e2 q2 HA4 HG4 HO4 HCL HX1 HX2 HCO HA e2a HNT HBR u0 u1 HOW
            go_wp2
            go_roundw
            case rel => exact ⟨i + 1, by omega, by go_num, by rw [HT2.out]; exact HN⟩
            case measure => simp [intOf]; omega
        · have HN : Hid (∃ vo k, k ≤ i + 1 ∧ OdOwn wy (bo + 1) vo k T ∧ CoOwn wy (bo + 1) vc d (cs.take d) ∧ Fo ⟨P, N, co, cn, cc, some ⟨q, p0, none⟩, on, oc, cs, os⟩ p (d : Int) w wy b ro bo (bo + 1) vc vo) := Lib.hid ⟨vo, k, by omega, by rw [HYES.out rfl]; exact HOW.out, HCO.out, HA.out⟩
          clear HYES HNO HOW HCO HA HCL u0 u1
          go_wp2
          go_roundw
          case rel => exact ⟨i + 1, by omega, by go_num, by rw [HT2.out]; exact HN⟩
          case measure => simp [intOf]; omega
      · obtain rfl : on = i := by omega
        have HOO : Hid (OdOwn wr (bo + 1) vo k (notUsual cs P N os)) := Lib.hid (by
          have h := HOW.out
          rw [List.take_of_length_le (by rw [LO.out]; exact Nat.le_refl _)] at h
          exact h)
        have HKL : Hid (k = (notUsual cs P N os).length) := Lib.hid HOO.out.len.symm
        obtain ⟨ao, c2, rfl, _⟩ := HCO.out.vs
        obtain ⟨qo, q2c, rfl, _⟩ := HOO.out.vs
        have e0 : wr.cell? ⟨bo, 0, none⟩ = some (.int .i64 p) := HA.out.cell 0
        have e1 : wr.cell? ⟨bo, 1, none⟩ = some (.int .i64 (d : Int)) := HA.out.cell 1
        have e2 : wr.cell? ⟨bo, 2, none⟩ = some (.slice ao d c2) := HA.out.cell 2
        have e3 : wr.cell? ⟨bo, 3, none⟩ = some (.slice qo k q2c) := HA.out.cell 3
        have r0 := HA.out.resc 0
        have r1 := HA.out.resc 1
        have r2 := HA.out.resc 2
        have r3 := HA.out.resc 3
        have f0 := HA.out.rfree 0
        have f1 := HA.out.rfree 1
        have f2 := HA.out.rfree 2
        have f3 := HA.out.rfree 3
        go_wp2_with fail
        have HRS := Lib.hid (put_four HA.out.res (.int .i64 p) (.int .i64 (d : Int)) (.slice ao d c2) (.slice qo k q2c))
        have HGF := Lib.hid (grown_four wr ro (.int .i64 p) (.int .i64 (d : Int)) (.slice ao d c2) (.slice qo k q2c))
        generalize hwf : (((wr.setCell ⟨ro, 0, none⟩ (.int .i64 p)).setCell ⟨ro, 1, none⟩ (.int .i64 (d : Int))).setCell ⟨ro, 2, none⟩ (.slice ao d c2)).setCell ⟨ro, 3, none⟩ (.slice qo k q2c) = wf
        rw [hwf] at HRS HGF
        clear hwf e0 e1 e2 e3 r0 r1 r2 r3 f0 f1 f2 f3
        have HC2 := Lib.hid (HCO.out.grown HGF.out (fun q e => .inl (by cases e; exact HA.out.hi2)) (fun q e => .inl (by cases e; exact HA.out.hi2)))
        have HO2 := Lib.hid (HOO.out.grown HGF.out (fun q e => .inl (by cases e; exact HA.out.hi2)) (fun q e => .inl (by cases e; exact HA.out.hi2)))
        have HBW := Lib.hid (HA.out.bw.grown HGF.out HA.out.bw.size (fun q e => by cases e; exact HA.out.lo2))
        have r0 : wf.cell? ⟨ro, 0, none⟩ = some (.int .i64 p) := cell_block HRS.out 0
        have r1 : wf.cell? ⟨ro, 1, none⟩ = some (.int .i64 (d : Int)) := cell_block HRS.out 1
        have r2 : wf.cell? ⟨ro, 2, none⟩ = some (.slice ao d c2) := cell_block HRS.out 2
        have r3 : wf.cell? ⟨ro, 3, none⟩ = some (.slice qo k q2c) := cell_block HRS.out 3
        refine bodyPost_ret (v := .agg #[.int .i64 p, .int .i64 (d : Int), .slice ao d c2, .slice qo k q2c]) (by simp [results, Try.results16, go_sem, r0, r1, r2, r3]) rfl ⟨d, _, _, by rw [← HPP.out], HT, Lib.hid ⟨HC2.out.mono HLO.out, ?_⟩, HBW⟩
        have h := HO2.out.mono HLO.out
        rw [HKL.out] at h ⊢
        exact h
end Go.Proofs.Ytmjapbjjfhmohaa
