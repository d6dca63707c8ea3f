/- Contracts: core; forms in boxes. -/
import Derived.Test.YtacpcokmgahjaaaDoorB9
namespace Go.Proofs.YtacpcokmgahjaaaDoor
set_option linter.unusedVariables false
set_option linter.unusedSimpArgs false
open Go.ChangeShapes Go.WideShapes Go.ChangeAt Go.RowKit
set_option maxHeartbeats 1000000 in
theorem core_any (P N : Int) (co oo : Option Addr) (k cc on oc i : Nat) (cs : List (List Sp)) (a b : Int) (w : World) (hc : CoAt w co k cc cs) (hi : i < k) (he : cs[i]? = some [(a, b)]) :
    Calls Tryd.prog 27 #[.agg #[.int .i64 P, .int .i64 N, .slice co k cc, .slice oo on oc], .int .i64 (i : Int)] w fun e w' => e = .returned (.agg #[.int .i64 a, .int .i64 b]) ∧ Below w.heap.size w w' := by
  obtain ⟨fb, hfb⟩ : ∃ b, w.heap.size = b := ⟨_, rfl⟩
  obtain ⟨wb, hwb⟩ : ∃ wb, (w.alloc (.cells #[.int .i64 P, .int .i64 N, .slice co k cc, .slice oo on oc] 29)).alloc (.cells #[.int .i64 0, .int .i64 0] 42) = wb := ⟨_, rfl⟩
  have KW : Below w.heap.size w wb := by rw [← hwb]; exact ((Below.refl _ w).alloc (Nat.le_refl _) _).alloc (by simp) _
  have b1 : wb.heap[fb]? = some (.cells #[.int .i64 P, .int .i64 N, .slice co k cc, .slice oo on oc] 29 (0, 0)) := by rw [← hwb, al_old _ _ (by simp; omega), ← hfb, al_new]
  have b2 : wb.heap[fb + 1]? = some (.cells #[.int .i64 0, .int .i64 0] 42 (0, 0)) := by rw [← hwb, show fb + 1 = (w.alloc (.cells #[.int .i64 P, .int .i64 N, .slice co k cc, .slice oo on oc] 29)).heap.size by simp; omega, al_new]
  have HKW := Lib.hid KW
  have HB2 := Lib.hid b2
  have HFB := Lib.hid hfb
  have hl := hc.len
  have hkm : k ≤ 9223372036854775807 := Nat.le_trans hc.le hc.top
  obtain ⟨g, p, rfl, hcs⟩ := hc.here (by omega)
  obtain ⟨o, m, d, e1, e2⟩ := hcs i (by omega)
  have hx : cs[i]'(by omega) = [(a, b)] := by
    rw [List.getElem?_eq_getElem (by omega)] at he
    exact Option.some.inj he
  rw [hx] at e2
  obtain rfl : 1 = m := e2.len
  obtain ⟨g2, p2, rfl, hc2⟩ := e2.here (by decide)
  have q := hc2 0 (Nat.zero_lt_one)
  simp only [Nat.zero_mul, Nat.add_zero, List.getElem_cons_zero] at q
  have s1 := cell_keep q.1 KW
  have s2 := cell_keep q.2 KW
  have e1 := cell_keep e1 KW
  have c2 := cell_blk b1 2
  have r0 := cell_blk b2 0
  have r1 := cell_blk b2 1
  have f0 := blk_free b2 0
  have f1 := blk_free b2 1
  have i0 : (0 : Int) ≤ (i : Int) := by omega
  have i1 : (i : Int) < (k : Int) := by omega
  clear hcs hc2 q e2 he hc hl hx KW b1 b2
  go_enter Tryd.func27, Tryd.ntmps27
  go_upto_region 1 with fail
  clear hwb hfb
  go_wp2_with fail
  have hs := set_block (set_block HB2.out 0 (.int .i64 a)) 1 (.int .i64 b)
  have g1 := grow_cell wb ⟨fb + 1, 0, none⟩ (.int .i64 a)
  have g3 := grow_cell (wb.setCell ⟨fb + 1, 0, none⟩ (.int .i64 a)) ⟨fb + 1, 1, none⟩ (.int .i64 b)
  generalize (wb.setCell ⟨fb + 1, 0, none⟩ (.int .i64 a)).setCell ⟨fb + 1, 1, none⟩ (.int .i64 b) = wf at hs g3 ⊢
  clear r0 r1 f0 f1
  have r0 : wf.cell? ⟨fb + 1, 0, none⟩ = some (.int .i64 a) := cell_blk hs 0
  have r1 : wf.cell? ⟨fb + 1, 1, none⟩ = some (.int .i64 b) := cell_blk hs 1
  have hz := HFB.out
  have k1 := HKW.out.grown g1 HKW.out.size (fun q z => by cases z; show w.heap.size ≤ fb + 1; omega)
  have k2 := k1.grown g3 k1.size (fun q z => by cases z; show w.heap.size ≤ fb + 1; omega)
  exact bodyPost_ret (v := .agg #[.int .i64 a, .int .i64 b]) (by simp [results, Tryd.results27, go_sem, r0, r1]) rfl ⟨rfl, k2⟩
theorem own_btw {w W : World} {B e s n : Nat} {v : Value} {xs : List Value} (h : w.ownsRow B e s v n xs) (k : Btw B w W) : W.ownsRow B e s v n xs := by
  refine ⟨h.1, ?_⟩
  rcases h.2 with z | ⟨g, cap, cur, e1, h2, h3, h4⟩
  · exact .inl z
  · exact .inr ⟨g, cap, cur, e1, h2, (k g h2 (Array.getElem?_eq_some_iff.1 h3).1).trans h3, h4⟩
theorem co_btw {w W : World} {B n : Nat} {v : Value} {ls : List (List Sp)} (h : CoOwn w B v n ls) (k : Btw B w W) : CoOwn W B v n ls := by
  obtain ⟨l1, xs, r1, i1⟩ := h
  refine ⟨l1, xs, own_btw r1 k, fun i hi => ?_⟩
  obtain ⟨u, a, b⟩ := i1 i hi
  exact ⟨u, a, own_btw b k⟩
/-- A form of a name, in a box. -/
structure Bx (k g : Nat) (w : World) (b i : Nat) (a3 : Option Addr) (c3 : Nat) (a4 : Option Addr) (c4 : Nat) : Prop where
  box : w.heap[b]? = some (.cells #[.int .i64 (bP i), .int .i64 (bN i : Int), .slice a3 (bN i) c3, .slice a4 0 c4] 29 (0, 0))
  own : ∃ B, k < B ∧ g < B ∧ CoOwn w B (.slice a3 (bN i) c3) (bN i) (bC i)
  n1 : b ≠ k
  n2 : b ≠ g
theorem Bx.but {k g b i c3 c4 : Nat} {a3 a4 : Option Addr} {w w' : World} (h : Bx k g w b i a3 c3 a4 c4) (q : But2 k g w w') : Bx k g w' b i a3 c3 a4 c4 := by
  obtain ⟨B, b1, b2, o⟩ := h.own
  exact ⟨(q.old b (Array.getElem?_eq_some_iff.1 h.box).1 h.n1 h.n2).trans h.box, ⟨B, b1, b2, co_btw o (fun r r1 r2 => q.old r r2 (by omega) (by omega))⟩, h.n1, h.n2⟩
theorem But2.of_below {k g : Nat} {w w' : World} (h : Below w.heap.size w w') : But2 k g w w' := ⟨h.os, h.tape, h.output, h.size, fun q hq _ _ => h.block q hq⟩
theorem But2.trans {k g : Nat} {a b c : World} (h : But2 k g a b) (q : But2 k g b c) : But2 k g a c := ⟨q.os.trans h.os, q.tape.trans h.tape, q.output.trans h.output, Nat.le_trans h.size q.size, fun r r1 r2 r3 => (q.old r (Nat.lt_of_lt_of_le r1 h.size) r2 r3).trans (h.old r r1 r2 r3)⟩
theorem Bx.co {k g b i c3 c4 : Nat} {a3 a4 : Option Addr} {w : World} (h : Bx k g w b i a3 c3 a4 c4) : CoAt w a3 (bN i) c3 (bC i) := by
  obtain ⟨B, b1, b2, o⟩ := h.own
  obtain ⟨ao, c, e, x⟩ := o.vs
  cases e
  exact x
theorem Bx.new {i m c k g : Nat} {st : Nat → Bool} {n : Int} {w w' : World} {a3 a4 : Option Addr} {c3 c4 : Nat} (ho : ∃ B, w.heap.size ≤ B ∧ B ≤ w'.heap.size ∧ CoOwn w' B (.slice a3 (bN i) c3) (bN i) (bC i) ∧ OdOwn w' B (.slice a4 0 c4) 0 []) (hk : k < w.heap.size) (hg : g < w.heap.size) :
    Bx k g (w'.alloc (.cells #[.int .i64 (bP i), .int .i64 (bN i : Int), .slice a3 (bN i) c3, .slice a4 0 c4] 29)) w'.heap.size i a3 c3 a4 c4 := by
  obtain ⟨B, h1, h2, o, _⟩ := ho
  exact ⟨al_new w' _, ⟨B, by omega, by omega, o.keep ((Below.refl _ w').alloc (Nat.le_refl _) _)⟩, by omega, by omega⟩
end Go.Proofs.YtacpcokmgahjaaaDoor
