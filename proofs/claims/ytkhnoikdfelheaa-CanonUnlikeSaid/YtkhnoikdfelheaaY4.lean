/- M19, M21, M22, M23 in one. -/
import Derived.Test.YtkhnoikdfelheaaY2
import Derived.Test.YtkhnoikdfelheaaC5
import Derived.Maps.AppendAt
import Derived.Test.YtkhnoikdfelheaaL3
namespace Go.Proofs.Ytkhnoikdfelheaa
set_option linter.unusedVariables false
set_option linter.unusedSimpArgs false
open Go.ChangeShapes Go.WideShapes Go.ChangeAt Go.RowKit
theorem lens_take_le : ∀ (l : List (List Sp)) (k : Nat), lens (l.take k) ≤ lens l
  | [], k => by simp
  | x :: r, 0 => by simp [lens]
  | x :: r, k + 1 => by
    have := lens_take_le r k
    simp only [List.take_succ_cons, lens]
    omega
theorem lens_filter_le (p : Gr → Bool) : ∀ (os : List Gr), lens (tks (os.filter p)) ≤ lens (tks os)
  | [] => by simp
  | o :: r => by
    have := lens_filter_le p r
    rw [List.filter_cons]
    split
    · show o.2.length + lens (tks (r.filter p)) ≤ o.2.length + lens (tks r); omega
    · show lens (tks (r.filter p)) ≤ o.2.length + lens (tks r); omega
/-- The canonical form has no more of anything. -/
structure Less (F G : Fv) : Prop where
  n : G.N ≤ F.N
  p : G.P ≤ F.P
  cn : G.cn ≤ F.cn
  on : G.on ≤ F.on
  sz : G.size ≤ F.size
theorem can_less {F G : Fv} (c : IsCan F G) (h : F.Rt) (hl : F.cs.length = F.cn) (ho : F.os.length = F.on) (hg : G.os.length = G.on) : Less F G := by
  have hm := meas_P h.meas
  have hN := meas_N h.meas
  have key : G.cn ≤ F.cn ∧ G.P ≤ F.P := by
    rcases c.turn with ⟨z, _⟩ | ⟨⟨l, h1, _⟩, t, _⟩
    · refine ⟨by omega, ?_⟩
      rw [c.P, z]
      exact hm.1
    · rcases meas_full h.meas hl with f | f
      · have hd := turn_le f t
        have hp := canP_mul t
        refine ⟨by omega, ?_⟩
        rw [c.P]
        have hd2 : ((G.cn : Nat) : Int) ≤ F.N := by rw [hN]; omega
        have e : F.P * (G.cn : Int) ≤ F.P * F.N := Int.mul_le_mul_of_nonneg_left hd2 hm.1
        rw [← hp, Int.mul_comm F.P F.N] at e
        exact Int.le_of_mul_le_mul_left e f.1
      · rw [f] at h1; cases h1
  refine ⟨by rw [c.N, hN]; omega, key.2, key.1, ?_, ?_⟩
  · rw [← ho, ← hg, c.os]; exact List.length_filter_le _ _
  · have a := lens_take_le F.cs G.cn
    have b := lens_filter_le (fun o => !(decide (o.2 = cg F.cs F.P F.N o.1))) F.os
    unfold Fv.size
    rw [c.cs, c.os]
    unfold canOs
    omega
theorem Less.small {F G : Fv} (h : Less F G) (s : F.Small) : G.Small := ⟨Nat.le_trans h.cn s.1, Nat.le_trans h.on s.2.1, Nat.le_trans h.sz s.2.2⟩
theorem canOs_ne {F G : Fv} (c : IsCan F F) : ∀ o ∈ F.os, o.2 ≠ cg F.cs F.P F.N o.1 := fun o ho e => by
  rw [c.os] at ho
  have := (List.mem_filter.1 ho).2
  simp [e] at this
theorem canEq_self {F C : Fv} (c : IsCan F C) (k : IsCan C C) : CanEq F C := (canEq_iff c k).2 ⟨rfl, rfl, rfl, rfl⟩
/-- The sets of the first indexes, by the core. -/
def seqC (cs : List (List Sp)) (P N : Int) (m : Nat) : List (List Sp) := (List.range m).map (fun (i : Nat) => cg cs P N (i : Int))
theorem seqC_len {cs : List (List Sp)} {P N : Int} {m : Nat} : (seqC cs P N m).length = m := by simp [seqC]
theorem seqC_snoc {cs : List (List Sp)} {P N : Int} {m : Nat} : seqC cs P N (m + 1) = seqC cs P N m ++ [cg cs P N (m : Int)] := by simp [seqC, List.range_succ]
theorem seqC_core {cs : List (List Sp)} {P N : Int} (h : Full cs N) : seqC cs P N cs.length = cs := by
  refine List.ext_getElem seqC_len (fun i h1 h2 => ?_)
  simp only [seqC, List.getElem_map, List.getElem_range]
  exact cg_nat h h2
theorem seqC_at {cs : List (List Sp)} {P N : Int} (h : Full cs N) {j : Nat} (hj : j < cs.length) (q : Nat) : cg cs P N ((cs.length * q + j : Nat) : Int) = moved cs[j] ((q : Int) * P) := by
  have a := cg_nexts (P := P) h (q : Int) (j : Int)
  rw [cg_nat h hj] at a
  have e : ((cs.length * q + j : Nat) : Int) = (j : Int) + N * (q : Int) := by rw [h.2]; push_cast; omega
  rw [e, a, Int.mul_comm]
theorem seqC_cg {cs : List (List Sp)} {P N : Int} (h : Full cs N) {t : Nat} (ht : 0 < t) (i : Int) : cg (seqC cs P N (cs.length * t)) (P * (t : Int)) (N * (t : Int)) i = cg cs P N i := by
  have f : Full (seqC cs P N (cs.length * t)) (N * (t : Int)) := ⟨Int.mul_pos h.1 (by omega), by rw [seqC_len, h.2]; push_cast; rfl⟩
  obtain ⟨r, q, hr, e, e2⟩ := cg_split (P := P * (t : Int)) f i
  have a := cg_nexts (P := P) h ((t : Int) * q) (r : Int)
  rw [e2, e, Int.mul_assoc, Int.mul_assoc, a]
  simp only [seqC, List.getElem_map, List.getElem_range]
theorem seqC_any {cs : List (List Sp)} {P N : Int} (h : Full cs N ∨ (cs = [] ∧ N = 0)) {t : Nat} (ht : 0 < t) (i : Int) : cg (seqC cs P N (cs.length * t)) (P * (t : Int)) (N * (t : Int)) i = cg cs P N i := by
  rcases h with h | ⟨h1, h2⟩
  · exact seqC_cg h ht i
  · rw [cg_out (cs := cs) (N := N) (fun z => by have := z.1; omega), cg_out (fun z => by have := z.1; rw [h2, Int.zero_mul] at this; omega)]
theorem meas_full0 {F : Fv} (h : F.Meas) (hl : F.cs.length = F.cn) : Full F.cs F.N ∨ (F.cs = [] ∧ F.N = 0) := by
  rcases h with ⟨h1, _, h⟩ | ⟨h0, h1, _⟩
  · exact .inr ⟨List.eq_nil_of_length_eq_zero (by omega), h1⟩
  · exact .inl ⟨by omega, by omega⟩
theorem exc_mem {os : List Gr} (h : os.Pairwise (fun a b => a.1 < b.1)) {o : Gr} (ho : o ∈ os) : exc os o.1 = some o.2 := by
  obtain ⟨n, hn, rfl⟩ := List.getElem_of_mem ho
  exact exc_at h hn rfl
theorem gr_mem {F : Fv} (h : F.os.Pairwise (fun a b => a.1 < b.1)) {o : Gr} (ho : o ∈ F.os) : gr F o.1 = o.2 := by unfold gr; rw [exc_mem h ho]
/-- Exceptions that are as they would be change nothing. -/
theorem put_gr {F G : Fv} (sF : F.os.Pairwise (fun a b => a.1 < b.1)) (sG : G.os.Pairwise (fun a b => a.1 < b.1)) (hc : ∀ i, cg G.cs G.P G.N i = cg F.cs F.P F.N i) (h1 : ∀ o ∈ F.os, o ∈ G.os) (h2 : ∀ o ∈ G.os, o ∈ F.os ∨ o.2 = gr F o.1) (i : Int) : gr G i = gr F i := by
  cases e : exc G.os i with
  | some m =>
    obtain ⟨n, hn, q1, q2⟩ := exc_some e
    have hm : G.os[n] ∈ G.os := List.getElem_mem hn
    have a := gr_mem sG hm
    rw [q1] at a
    rw [a]
    rcases h2 _ hm with z | z
    · have := gr_mem sF z; rw [q1] at this; exact this.symm
    · rw [z, q1]
  | none =>
    have z : exc F.os i = none := exc_none.2 (fun o ho => exc_none.1 e o (h1 o ho))
    rw [gr_free e, gr_free z, hc]
/-- Forms with the same sets, and the same core's sets, have one canonical form. -/
theorem canEq_all {F G : Fv} (hF : F.Rt) (hG : G.Rt) (lF : F.cs.length = F.cn) (lG : G.cs.length = G.cn) (hc : ∀ i, cg F.cs F.P F.N i = cg G.cs G.P G.N i) (hg : ∀ i, gr F i = gr G i) : CanEq F G := fun A B cA cB =>
  can_unique cA cB (meas_full hF.meas lF) (meas_full hG.meas lG) hF.odd.inc hG.odd.inc hc (fun i _ => hg i)
theorem canEq_not {F G : Fv} (hF : F.Rt) (hG : G.Rt) (lF : F.cs.length = F.cn) (lG : G.cs.length = G.cn) {i : Int} (h : gr F i ≠ gr G i) : ¬ CanEq F G := fun z => h (gr_of_canEq hF hG lF lG z i)
theorem canEq_refl (F : Fv) : CanEq F F := fun A B a b => isCan_unique a b
/-- What CanonTurns says. -/
theorem turns_same {F G : Fv} (hF : F.Rt) (hG : G.Rt) (lF : F.cs.length = F.cn) (lG : G.cs.length = G.cn) {t : Nat} (ht : 0 < t) (eP : G.P = F.P * (t : Int)) (eN : G.N = F.N * (t : Int)) (ec : G.cs = seqC F.cs F.P F.N (F.cs.length * t)) (h1 : ∀ o ∈ F.os, o ∈ G.os) (h2 : ∀ o ∈ G.os, o ∈ F.os ∨ o.2 = gr F o.1) : CanEq F G := by
  have hc : ∀ i, cg G.cs G.P G.N i = cg F.cs F.P F.N i := fun i => by rw [ec, eP, eN]; exact seqC_any (meas_full0 hF.meas lF) ht i
  exact canEq_all hF hG lF lG (fun i => (hc i).symm) (fun i => (put_gr hF.odd.inc hG.odd.inc hc h1 h2 i).symm)
/-- What CanonUnlike says. -/
theorem unlike_not {F G : Fv} (hF : F.Rt) (hG : G.Rt) (lF : F.cs.length = F.cn) (lG : G.cs.length = G.cn) {a : Int} {l : List Sp} (h : (a, l) ∈ G.os) (hne : l ≠ gr F a) : ¬ CanEq F G :=
  canEq_not hF hG lF lG (i := a) (fun z => hne (by rw [z]; exact (gr_mem hG.odd.inc h).symm))
theorem cg_short {cs : List (List Sp)} {P N : Int} {m : Nat} (h : ∀ l ∈ cs, l.length ≤ m) (i : Int) : (cg cs P N i).length ≤ m := by
  unfold cg
  split
  · unfold moved cset
    rw [List.length_map, List.getD_eq_getElem?_getD]
    cases e : cs[(i.fmod N).toNat]? with
    | none => exact Nat.zero_le _
    | some l => exact h _ (List.mem_of_getElem? e)
  · exact Nat.zero_le _
theorem seqC_short {cs : List (List Sp)} {P N : Int} {m k : Nat} (h : ∀ l ∈ cs, l.length ≤ m) : ∀ l ∈ seqC cs P N k, l.length ≤ m := fun l hl => by
  obtain ⟨i, _, rfl⟩ := List.mem_map.1 hl
  exact cg_short h _
/-- The form whose core goes round, under way. -/
structure Tw (F : Fv) (w0 w : World) (b ro bo : Nat) (vc vo : Value) : Prop where
  f : F.At w0
  bw : Below w0.heap.size w0 w
  lo : w0.heap.size ≤ bo
  lo2 : w0.heap.size ≤ ro
  n1 : b ≠ bo
  n2 : b ≠ ro
  n3 : bo ≠ ro
  box : w.heap[b]? = some (.cells F.box 25 (0, 0))
  blk : w.heap[bo]? = some (.cells #[.int .i64 F.P, .int .i64 F.N, vc, vo] 25 (0, 0))
  res : w.heap[ro]? = some (.cells #[.int .i64 0, .int .i64 0, .slice none 0 0, .slice none 0 0] 25 (0, 0))
theorem Tw.grown {F : Fv} {w0 w w' : World} {b ro bo : Nat} {vc vo : Value} {row : Option Nat} (h : Tw F w0 w b ro bo vc vo) (hg : w.grownBy w' row) (hr : ∀ q, row = some q → w0.heap.size ≤ q ∧ ∃ cur t, w.heap[q]? = some (.cells cur t (0, 0)) ∧ t ≠ 25) : Tw F w0 w' b ro bo vc vo := by
  have key : ∀ {k : Nat} {c : Array Value}, w.heap[k]? = some (.cells c 25 (0, 0)) → w'.heap[k]? = some (.cells c 25 (0, 0)) := fun {k c} e => by
    refine (hg.block k (Array.getElem?_eq_some_iff.1 e).1 (fun z => ?_)).trans e
    obtain ⟨_, cur, t, h1, h2⟩ := hr k z.symm
    rw [e] at h1
    cases h1
    exact h2 rfl
  exact ⟨h.f, h.bw.grown hg h.bw.size (fun k hk => (hr k hk).1), h.lo, h.lo2, h.n1, h.n2, h.n3, key h.box, key h.blk, key h.res⟩
theorem Tw.keep {F : Fv} {w0 w w' : World} {b ro bo : Nat} {vc vo : Value} (h : Tw F w0 w b ro bo vc vo) (k : Below w.heap.size w w') : Tw F w0 w' b ro bo vc vo := h.grown (grown_of_below k) (fun q e => by cases e)
theorem Tw.put {F : Fv} {w0 w : World} {b ro bo : Nat} {vc vo : Value} (h : Tw F w0 w b ro bo vc vo) (u : Value) : Tw F w0 (w.setCell ⟨bo, 2, none⟩ u) b ro bo u vo := by
  have hg := grown_cell w ⟨bo, 2, none⟩ u
  refine ⟨h.f, h.bw.setCell (p := ⟨bo, 2, none⟩) h.lo u, h.lo, h.lo2, h.n1, h.n2, h.n3, (hg.block b (Array.getElem?_eq_some_iff.1 h.box).1 (fun e => by cases e; exact h.n1 rfl)).trans h.box, ?_, (hg.block ro (Array.getElem?_eq_some_iff.1 h.res).1 (fun e => by cases e; exact h.n3 rfl)).trans h.res⟩
  rw [set_block h.blk]; rfl
theorem Tw.cell {F : Fv} {w0 w : World} {b ro bo : Nat} {vc vo : Value} (h : Tw F w0 w b ro bo vc vo) (k : Nat) : w.cell? ⟨bo, k, none⟩ = (#[.int .i64 F.P, .int .i64 F.N, vc, vo] : Array Value)[k]? := cell_block h.blk k
theorem Tw.boxc {F : Fv} {w0 w : World} {b ro bo : Nat} {vc vo : Value} (h : Tw F w0 w b ro bo vc vo) (k : Nat) : w.cell? ⟨b, k, none⟩ = F.box[k]? := cell_block h.box k
theorem Tw.resc {F : Fv} {w0 w : World} {b ro bo : Nat} {vc vo : Value} (h : Tw F w0 w b ro bo vc vo) (k : Nat) : w.cell? ⟨ro, k, none⟩ = (#[.int .i64 0, .int .i64 0, .slice none 0 0, .slice none 0 0] : Array Value)[k]? := cell_block h.res k
theorem free_block {w : World} {b : Nat} {c : Array Value} {t : TypeId} (h : w.heap[b]? = some (.cells c t (0, 0))) (k : Nat) : w.frozen? ⟨b, k, none⟩ = false := by
  unfold World.frozen?; rw [h]; simp
theorem grown_10 (w : World) (b : Nat) (x y : Value) : w.grownBy (((w.setCell ⟨b, 1, none⟩ x).setCell ⟨b, 0, none⟩ y).drew) (some b) := by
  refine ⟨rfl, rfl, rfl, by simp [World.setCell, World.drew], fun q hq hne => ?_⟩
  have hn : q ≠ b := fun e => hne (by rw [e])
  show ((w.setCell ⟨b, 1, none⟩ x).setCell ⟨b, 0, none⟩ y).heap[q]? = _
  rw [Below.heap_setCell _ _ _ _ hn, Below.heap_setCell _ _ _ _ hn]
theorem put_10 {w : World} {b : Nat} {a0 a1 a2 a3 : Value} {t : TypeId} (h : w.heap[b]? = some (.cells #[a0, a1, a2, a3] t (0, 0))) (x y : Value) : (((w.setCell ⟨b, 1, none⟩ x).setCell ⟨b, 0, none⟩ y).drew).heap[b]? = some (.cells #[y, x, a2, a3] t (0, 0)) := by
  show ((w.setCell ⟨b, 1, none⟩ x).setCell ⟨b, 0, none⟩ y).heap[b]? = _
  rw [set_block (set_block h 1 x) 0 y]; rfl
/-- Behind an append, and its store. -/
theorem Tw.app {F : Fv} {w0 w w4 : World} {b ro bo m on : Nat} {vc vo u v2 : Value} {ls : List (List Sp)} {os : List Gr} {L : List Sp} {xs : List Value} (h : Tw F w0 w b ro bo vc vo) (hx1 : w.ownsRow w0.heap.size 31 1 vc m xs) (hl : ls.length = m) (hx2 : ∀ i (h : i < ls.length), ∃ u, xs[i]? = some u ∧ w.ownsRow w0.heap.size 46 2 u ls[i].length (spCells ls[i])) (ho : OdOwn w w0.heap.size vo on os) (hu : w.ownsRow w0.heap.size 46 2 u L.length (spCells L)) (hg : w.grownBy w4 vc.ownBlock) (hr : w4.ownsRow w0.heap.size 31 1 v2 (m + 1) (xs ++ [u])) :
    Tw F w0 w4 b ro bo vc vo ∧ CoOwn (w4.setCell ⟨bo, 2, none⟩ v2) w0.heap.size v2 (m + 1) (ls ++ [L]) ∧ OdOwn (w4.setCell ⟨bo, 2, none⟩ v2) w0.heap.size vo on os ∧ Tw F w0 (w4.setCell ⟨bo, 2, none⟩ v2) b ro bo v2 vo := by
  have h4 : Tw F w0 w4 b ro bo vc vo := h.grown hg (fun q e => ⟨(hx1.lt q e).1, by obtain ⟨cur, t⟩ := own_typed hx1 e; exact ⟨cur, 31, t, by decide⟩⟩)
  have off : ∀ e : Nat, 31 ≠ e → Off w w0.heap.size e vc.ownBlock := fun e he q z => by
    obtain ⟨cur, t⟩ := own_typed hx1 z
    exact .inr ⟨cur, 31, t, he⟩
  have off2 : ∀ e : Nat, 25 ≠ e → Off w4 w0.heap.size e (some bo) := fun e he q z => by
    cases z
    exact .inr ⟨_, 25, h4.blk, he⟩
  exact ⟨h4, (co_push hx1 hg hr hl hx2 hu).grown (grown_cell w4 ⟨bo, 2, none⟩ v2) (off2 _ (by decide)) (off2 _ (by decide)), (ho.grown hg (off _ (by decide)) (off _ (by decide))).grown (grown_cell w4 ⟨bo, 2, none⟩ v2) (off2 _ (by decide)) (off2 _ (by decide)), h4.put v2⟩
set_option maxRecDepth 8000 in
set_option maxHeartbeats 4000000 in
theorem twice_any (F : Fv) (t : Nat) (w : World) (hF : F.At w) (hs : F.Small) (rt : F.Rt) (hp : F.P ≤ 1073741824) (ht : 1 ≤ t) (ht2 : t ≤ 6) :
    Calls Try.prog 21 #[F.v, .int .i64 (t : Int)] w fun e w' => ∃ (P2 N2 : Int) (c2 : Option Addr) (l2 k2 : Nat) (o2 : Option Addr) (m2 j2 : Nat) (g2 : List (List Sp)) (s2 : List Gr) (ok : Bool), e = .returned (.tuple #[.agg #[.int .i64 P2, .int .i64 N2, .slice c2 l2 k2, .slice o2 m2 j2], .bool ok]) ∧ Hid (Fv.At ⟨P2, N2, c2, l2, k2, o2, m2, j2, g2, s2⟩ w') ∧ Hid (ok = true → P2 = F.P * t ∧ N2 = F.N * t ∧ g2 = seqC F.cs F.P F.N (F.cs.length * t) ∧ s2 = F.os) ∧ Hid (Below w.heap.size w w') := by
  obtain ⟨j0, hj, hjz0, hjz1, hjz2⟩ := info_parts info31
  have HJ := Lib.hid hj
  have HJ0 := Lib.hid hjz0
  have HJ1 := Lib.hid hjz1
  have HJ2 := Lib.hid hjz2
  clear hj hjz0 hjz1 hjz2
  have ok := rt.ok hs
  have hP := meas_P rt.meas
  have hN := meas_N rt.meas
  have HFU := Lib.hid (meas_full0 rt.meas hF.core.len)
  have HANW := Lib.hid (fun W (h : F.At W) => anewForm_any F W h ok.cn ok.on ok.lenC ok.lenO)
  obtain ⟨P, N, co, cn, cc, oo, on, oc, cs, os⟩ := F
  have LC : Hid (cs.length = cn) := Lib.hid hF.core.len
  have LO : Hid (os.length = on) := Lib.hid hF.odd.len
  have HFU : Hid (Full cs N ∨ (cs = [] ∧ N = 0)) := HFU
  have h1 : cn ≤ 12 := hs.1
  have h2 : on ≤ 1000000 := ok.on
  have S1 : Hid (∀ l ∈ cs, l.length ≤ 1000000) := Lib.hid ok.lenC
  have SH : Hid (∀ o ∈ os, o.2.length ≤ 10000000000000) := Lib.hid hF.short.2
  have hP0 : 0 ≤ P := hP.1
  have hP1 : P ≤ 1073741824 := hp
  have hN : N = (cn : Int) := hN
  subst hN
  have hmc : cn ≤ 9223372036854775807 := by omega
  have hmo : on ≤ 9223372036854775807 := by omega
  have HGD : Hid (∀ l ∈ cs, Good l) := Lib.hid rt.core
  have HF := Lib.hid hF
  clear hF rt ok hs hp hP
  have HANW : Hid (∀ W, Fv.At ⟨P, (cn : Int), co, cn, cc, oo, on, oc, cs, os⟩ W → Calls Try.prog 10 #[.agg #[.int .i64 P, .int .i64 (cn : Int), .slice co cn cc, .slice oo on oc]] W fun e w' => ∃ vc vo, e = .returned (.agg #[.int .i64 P, .int .i64 (cn : Int), vc, vo]) ∧ Hid (CoOwn w' W.heap.size vc cn cs ∧ OdOwn w' W.heap.size vo on os) ∧ Hid (Below W.heap.size W w')) := HANW
  obtain ⟨b, hb⟩ : ∃ b, w.heap.size = b := ⟨_, rfl⟩
  obtain ⟨ro, hro⟩ : ∃ ro, b + 1 = ro := ⟨_, rfl⟩
  obtain ⟨wc, hwc⟩ : ∃ wc, (w.alloc (.cells #[.int .i64 P, .int .i64 (cn : Int), .slice co cn cc, .slice oo on oc] 25)).alloc (.cells #[.int .i64 0, .int .i64 0, .slice none 0 0, .slice none 0 0] 25) = wc := ⟨_, rfl⟩
  have B0 : wc.heap[b]? = some (.cells #[.int .i64 P, .int .i64 (cn : Int), .slice co cn cc, .slice oo on oc] 25) := by rw [← hwc, ← hb, old_al _ _ (by simp), new_al]
  have R0 : wc.heap[ro]? = some (.cells #[.int .i64 0, .int .i64 0, .slice none 0 0, .slice none 0 0] 25) := by rw [← hwc, ← hro, ← hb, show w.heap.size + 1 = (w.alloc (.cells #[.int .i64 P, .int .i64 (cn : Int), .slice co cn cc, .slice oo on oc] 25)).heap.size by simp, new_al]
  have KC : Below w.heap.size w wc := by rw [← hwc]; exact ((Below.refl _ w).alloc (Nat.le_refl _) _).alloc (by simp) _
  have ZC : wc.heap.size = b + 2 := by rw [← hwc, ← hb]; simp
  have HFC := Lib.hid (HF.out.keep KC)
  have e0 : wc.cell? ⟨b, 0, none⟩ = some (.int .i64 P) := cell_block B0 0
  have e1 : wc.cell? ⟨b, 1, none⟩ = some (.int .i64 (cn : Int)) := cell_block B0 1
  have e2 : wc.cell? ⟨b, 2, none⟩ = some (.slice co cn cc) := cell_block B0 2
  have e3 : wc.cell? ⟨b, 3, none⟩ = some (.slice oo on oc) := cell_block B0 3
  show Calls Try.prog 21 #[.agg #[.int .i64 P, .int .i64 (cn : Int), .slice co cn cc, .slice oo on oc], .int .i64 (t : Int)] w _
  go_enter Try.func21, Try.ntmps21
  go_wp2_with fail
  (with_reducible refine (HANW.out _ HFC.out).mono ?_)
  rintro e w1 ⟨vc, vo, rfl, q1, q2⟩
  obtain ⟨a3, c3, rfl, _⟩ := q1.out.1.vs
  obtain ⟨a4, c4, rfl, _⟩ := q1.out.2.vs
  obtain ⟨bo, hbo⟩ : ∃ bo, w1.heap.size = bo := ⟨_, rfl⟩
  obtain ⟨w2, hw2⟩ : ∃ w2, w1.alloc (.cells #[.int .i64 P, .int .i64 (cn : Int), .slice a3 cn c3, .slice a4 on c4] 25) = w2 := ⟨_, rfl⟩
  have K2 : Below w1.heap.size w1 w2 := by rw [← hw2]; exact (Below.refl _ w1).alloc (Nat.le_refl _) _
  have hb1 := q2.out.size
  have HA : Hid (Tw ⟨P, (cn : Int), co, cn, cc, oo, on, oc, cs, os⟩ w w2 b ro bo (.slice a3 cn c3) (.slice a4 on c4)) := Lib.hid ⟨HF.out, (KC.trans (q2.out.mono KC.size)).trans (K2.mono (Nat.le_trans KC.size q2.out.size)), by omega, by omega, by omega, by omega, by omega, (K2.block b (by omega)).trans ((q2.out.block b (by omega)).trans B0), by rw [← hw2, ← hbo, new_al], (K2.block ro (by omega)).trans ((q2.out.block ro (by omega)).trans R0)⟩
  have HCO : Hid (CoOwn w2 w.heap.size (.slice a3 cn c3) cn cs) := Lib.hid ((q1.out.1.keep K2).mono KC.size)
  have HOO : Hid (OdOwn w2 w.heap.size (.slice a4 on c4) on os) := Lib.hid ((q1.out.2.keep K2).mono KC.size)
  clear q1 q2 hb1 B0 R0 KC ZC HFC e0 e1 e2 e3 HANW hwc hb hro K2
  have H1 : Hid (∃ vc, CoOwn w2 w.heap.size vc (cn * 1) (seqC cs P (cn : Int) (cn * 1)) ∧ OdOwn w2 w.heap.size (.slice a4 on c4) on os ∧ Tw ⟨P, (cn : Int), co, cn, cc, oo, on, oc, cs, os⟩ w w2 b ro bo vc (.slice a4 on c4)) := Lib.hid ⟨_, by
    rw [Nat.mul_one]
    have e : seqC cs P (cn : Int) cn = cs := by
      rcases HFU.out with z | ⟨z, z2⟩
      · have := seqC_core (P := P) z; rw [LC.out] at this; exact this
      · have : cn = 0 := by omega
        rw [z, this]; rfl
    rw [e]; exact HCO.out, HOO.out, HA.out⟩
  clear HCO HOO HA
  go_wp2_with fail
  clear hw2 hbo
  go_loopw [7] (fun nn wr => ∃ n : Nat, 1 ≤ n ∧ n ≤ t ∧ nn = .int .i64 (n : Int) ∧ Hid (∃ vc, CoOwn wr w.heap.size vc (cn * n) (seqC cs P (cn : Int) (cn * n)) ∧ OdOwn wr w.heap.size (.slice a4 on c4) on os ∧ Tw ⟨P, (cn : Int), co, cn, cc, oo, on, oc, cs, os⟩ w wr b ro bo vc (.slice a4 on c4))) (fun nn _ => t - (intOf nn).toNat)
  case atStart => exact ⟨1, Nat.le_refl _, ht, rfl, H1⟩
  case round =>
    obtain ⟨n, n1, n2, rfl, HW⟩ := hrel
    clear H1
    obtain ⟨wo, rfl⟩ : ∃ wo : World, wo = wr := ⟨_, rfl⟩
    have nt0 : (0 : Int) ≤ (n : Int) := by omega
    by_cases nlt : n < t
    · have nt1 : (n : Int) < (t : Int) := by omega
      obtain ⟨vc, hco, hoo, hta⟩ := HW.out
      have e2 : wo.cell? ⟨b, 2, none⟩ = some (.slice co cn cc) := hta.boxc 2
      have H2 : Hid (∃ vc, CoOwn wo w.heap.size vc (cn * n + 0) (seqC cs P (cn : Int) (cn * n + 0)) ∧ OdOwn wo w.heap.size (.slice a4 on c4) on os ∧ Tw ⟨P, (cn : Int), co, cn, cc, oo, on, oc, cs, os⟩ w wo b ro bo vc (.slice a4 on c4)) := Lib.hid ⟨_, hco, hoo, hta⟩
      clear hco hoo hta HW
      go_wp2_with fail
      clear e2
      go_loopw [22] (fun ii wr => ∃ j : Nat, j ≤ cn ∧ ii = .int .i64 (j : Int) ∧ Hid (∃ vc, CoOwn wr w.heap.size vc (cn * n + j) (seqC cs P (cn : Int) (cn * n + j)) ∧ OdOwn wr w.heap.size (.slice a4 on c4) on os ∧ Tw ⟨P, (cn : Int), co, cn, cc, oo, on, oc, cs, os⟩ w wr b ro bo vc (.slice a4 on c4))) (fun ii _ => cn - (intOf ii).toNat)
      case atStart => exact ⟨0, Nat.zero_le _, rfl, H2⟩
      case round =>
        obtain ⟨j, j2, rfl, HW⟩ := hrel
        clear H2
        obtain ⟨vc, hco, hoo, hta⟩ := HW.out
        have HCO := Lib.hid hco
        have HOO := Lib.hid hoo
        have HA := Lib.hid hta
        clear HW hco hoo hta
        have jt0 : (0 : Int) ≤ (j : Int) := by omega
        by_cases jlt : j < cn
        · have jt1 : (j : Int) < (cn : Int) := by omega
          obtain ⟨q, p0, rfl, hc⟩ := (show CoAt wr co cn cc cs from HF.out.core.keep HA.out.bw).here (by omega)
          have hil : j < cs.length := by rw [LC.out]; exact jlt
          obtain ⟨lo, lm, ld, z1, y2⟩ := hc j hil
          have HLL : Hid (cs[j].length = lm) := Lib.hid y2.len
          have m1 : lm ≤ 1000000 := by rw [← y2.len]; exact S1.out _ (List.getElem_mem hil)
          have f : Full cs (cn : Int) := by
            rcases HFU.out with z | ⟨z, z2⟩
            · exact z
            · omega
          have HSQ : Hid (seqC cs P (cn : Int) (cn * n + j + 1) = seqC cs P (cn : Int) (cn * n + j) ++ [moved cs[j] ((n : Int) * P)]) := Lib.hid (by
            rw [seqC_snoc]
            have := seqC_at (P := P) f hil n
            rw [LC.out] at this
            rw [this])
          have d0 : 0 ≤ (n : Int) * P := Int.mul_nonneg (by omega) hP0
          have d1 : (n : Int) * P ≤ 6 * 1073741824 := Int.mul_le_mul (by omega) hP1 hP0 (by omega)
          have hW : IntKind.i64.wrap ((n : Int) * P) = (n : Int) * P := IntWalk.i64_in _ (by omega)
          have HMV := Lib.hid (move_any lo lm ld cs[j] (HGD.out _ (List.getElem_mem hil)) m1 ((n : Int) * P) (by omega) (by omega) wr y2)
          obtain ⟨D, hD⟩ : ∃ D, (n : Int) * P = D := ⟨_, rfl⟩
          obtain ⟨L, hL⟩ : ∃ L, cs[j] = L := ⟨_, rfl⟩
          rw [hD, hL] at HMV HSQ
          rw [hL] at HLL
          have e0 : wr.cell? ⟨b, 0, none⟩ = some (.int .i64 P) := HA.out.boxc 0
          rw [hD] at hW
          clear hc y2 hil f hL d0 d1
          have HBS := Lib.hid HA.out.bw.size
          go_wp2_with fail
          (with_reducible refine HMV.out.mono ?_)
          rintro e w3 ⟨v, k, rfl, qq, hv⟩
          have HV := Lib.hid hv
          clear hv HMV e0 hW
          have HA := Lib.hid (HA.out.keep qq)
          have HCO := Lib.hid (HCO.out.keep qq)
          have HOO := Lib.hid (HOO.out.keep qq)
          have hwr := HF.out
          have hbs := HBS.out
          rcases HV.out with ⟨_, rfl, hown⟩ | ⟨_, rfl, rfl⟩
          · obtain ⟨m, hm⟩ : ∃ m, cn * n + j = m := ⟨_, rfl⟩
            have hm2 : m ≤ 100 := by
              have : cn * n ≤ 12 * 6 := Nat.mul_le_mul h1 (by omega)
              omega
            have HM := Lib.hid hm
            rw [hm] at HSQ HCO
            obtain ⟨a5, c5, rfl, _⟩ := own_sp (l := moved L D) (by rw [← HLL.out]; unfold moved; simp) hown
            obtain ⟨xs, hx1, hx2⟩ := HCO.out.row
            have HX1 := Lib.hid hx1
            have HX2 := Lib.hid hx2
            have HUU : Hid ((w3.alloc (.cells #[.slice a5 lm c5] 31)).ownsRow w.heap.size 46 2 (.slice a5 lm c5) (moved L D).length (spCells (moved L D))) := Lib.hid (by
              have : (moved L D).length = lm := by rw [← HLL.out]; unfold moved; simp
              rw [this]
              exact (own_base hown hbs).alloc _)
            have hsz : w.heap.size ≤ w3.heap.size := HA.out.bw.size
            have HAA := Lib.hid (HA.out.keep ((Below.refl _ w3).alloc (Nat.le_refl _) (.cells #[.slice a5 lm c5] 31)))
            have HOA := Lib.hid (HOO.out.keep ((Below.refl _ w3).alloc (Nat.le_refl _) (.cells #[.slice a5 lm c5] 31)))
            have e2 : w3.cell? ⟨bo, 2, none⟩ = some vc := HA.out.cell 2
            have e2a := cell_keep e2 ((Below.refl _ w3).alloc (Nat.le_refl _) (.cells #[.slice a5 lm c5] 31))
            clear hm hx1 hx2 hown HV hwr hbs HA HOO qq
            go_wp2_with (at_builtin; go_loud (refine wpList_append_own_at _ rfl _ _ 22 rfl w.heap.size 31 j0 (.slice none 0 0) 1 24 Try.underlying22 HJ.out HJ0.out HJ1.out HJ2.out rfl (by decide) vc m xs rfl (HX1.out.alloc _) ⟨w3.heap.size, 0, none⟩ 1 1 [.slice a5 lm c5] rfl rfl (World.news_of_block (cs := #[.slice a5 lm c5]) (t := 31) (fr := (0, 0)) (World.alloc_heap_new w3 _)) (by simp [Value.oneCell']) (by unfold maxLen; omega) (by omega) (by simp; omega) ?_); intro v2 w4 hown4 hgro _ _; have HT4 := Lib.hid (HAA.out.app (HX1.out.alloc _) HCO.out.len (fun i hi => by obtain ⟨u, x1, x2⟩ := HX2.out i hi; exact ⟨u, x1, x2.alloc _⟩) HOA.out HUU.out hgro hown4); obtain ⟨a6, c6, rfl, _⟩ := HT4.out.2.1.vs; clear hown4 hgro HUU HAA HOA HX1 HX2 HCO e2 e2a; have e2 : w4.cell? ⟨bo, 2, none⟩ = some vc := HT4.out.1.cell 2; have f2 := free_block HT4.out.1.blk 2)
            have HN : Hid (∃ vc, CoOwn (w4.setCell ⟨bo, 2, none⟩ (.slice a6 (m + 1) c6)) w.heap.size vc (cn * n + (j + 1)) (seqC cs P (cn : Int) (cn * n + (j + 1))) ∧ OdOwn (w4.setCell ⟨bo, 2, none⟩ (.slice a6 (m + 1) c6)) w.heap.size (.slice a4 on c4) on os ∧ Tw ⟨P, (cn : Int), some ⟨q, p0, none⟩, cn, cc, oo, on, oc, cs, os⟩ w (w4.setCell ⟨bo, 2, none⟩ (.slice a6 (m + 1) c6)) b ro bo vc (.slice a4 on c4)) := Lib.hid (by
              rw [← Nat.add_assoc, HM.out, HSQ.out]
              exact ⟨_, HT4.out.2⟩)
            generalize hw5 : w4.setCell ⟨bo, 2, none⟩ (.slice a6 (m + 1) c6) = w5
            rw [hw5] at HN
            clear HT4 e2 f2 hw5
            go_wp2
            go_roundw
            case rel => exact ⟨j + 1, by omega, by go_num, HN⟩
            case measure => simp [intOf]; omega
          · have e0 : w3.cell? ⟨b, 0, none⟩ = some (.int .i64 P) := HA.out.boxc 0
            have e1 : w3.cell? ⟨b, 1, none⟩ = some (.int .i64 (cn : Int)) := HA.out.boxc 1
            have e2 : w3.cell? ⟨b, 2, none⟩ = some (.slice (some ⟨q, p0, none⟩) cn cc) := HA.out.boxc 2
            have e3 : w3.cell? ⟨b, 3, none⟩ = some (.slice oo on oc) := HA.out.boxc 3
            clear HCO HOO HV hwr hbs
            have r0 := HA.out.resc 0
            have r1 := HA.out.resc 1
            have r2 := HA.out.resc 2
            have r3 := HA.out.resc 3
            have f0 := free_block HA.out.res 0
            have f1 := free_block HA.out.res 1
            have f2 := free_block HA.out.res 2
            have f3 := free_block HA.out.res 3
            have HRS := Lib.hid (put_four HA.out.res (.int .i64 P) (.int .i64 (cn : Int)) (.slice (some ⟨q, p0, none⟩) cn cc) (.slice oo on oc))
            have HGF := Lib.hid (grown_four w3 ro (.int .i64 P) (.int .i64 (cn : Int)) (.slice (some ⟨q, p0, none⟩) cn cc) (.slice oo on oc))
            go_wp2_with fail
            generalize hwf : (((w3.setCell ⟨ro, 0, none⟩ (.int .i64 P)).setCell ⟨ro, 1, none⟩ (.int .i64 (cn : Int))).setCell ⟨ro, 2, none⟩ (.slice (some ⟨q, p0, none⟩) cn cc)).setCell ⟨ro, 3, none⟩ (.slice oo on oc) = wf
            rw [hwf] at HRS HGF
            clear hwf e0 e1 e2 e3 r0 r1 r2 r3 f0 f1 f2 f3
            have HBW := Lib.hid (HA.out.bw.grown HGF.out HA.out.bw.size (fun q e => by cases e; exact HA.out.lo2))
            have r0 : wf.cell? ⟨ro, 0, none⟩ = some (.int .i64 P) := cell_block HRS.out 0
            have r1 : wf.cell? ⟨ro, 1, none⟩ = some (.int .i64 (cn : Int)) := cell_block HRS.out 1
            have r2 : wf.cell? ⟨ro, 2, none⟩ = some (.slice (some ⟨q, p0, none⟩) cn cc) := cell_block HRS.out 2
            have r3 : wf.cell? ⟨ro, 3, none⟩ = some (.slice oo on oc) := cell_block HRS.out 3
            refine bodyPost_ret (v := .tuple #[.agg #[.int .i64 P, .int .i64 (cn : Int), .slice (some ⟨q, p0, none⟩) cn cc, .slice oo on oc], .bool false]) (by simp [results, Try.results21, go_sem, r0, r1, r2, r3]) rfl ⟨P, (cn : Int), _, _, _, _, _, _, cs, os, false, rfl, Lib.hid (HF.out.keep HBW.out), Lib.hid (fun z => by cases z), HBW⟩
        · obtain rfl : j = cn := by omega
          have H3 : Hid (∃ vc, CoOwn wr w.heap.size vc (j * (n + 1)) (seqC cs P (j : Int) (j * (n + 1))) ∧ OdOwn wr w.heap.size (.slice a4 on c4) on os ∧ Tw ⟨P, (j : Int), co, j, cc, oo, on, oc, cs, os⟩ w wr b ro bo vc (.slice a4 on c4)) := Lib.hid (by
            rw [Nat.mul_succ]
            exact ⟨_, HCO.out, HOO.out, HA.out⟩)
          clear HCO HOO HA
          go_wp2
          go_roundw
          case rel => exact ⟨n + 1, by omega, by omega, by go_num, H3⟩
          case measure => simp [intOf]; omega
    · obtain rfl : n = t := by omega
      obtain ⟨vc, hco, hoo, hta⟩ := HW.out
      have HCO := Lib.hid hco
      have HOO := Lib.hid hoo
      have HA := Lib.hid hta
      clear HW hco hoo hta
      obtain ⟨m, hm⟩ : ∃ m, cn * n = m := ⟨_, rfl⟩
      rw [hm] at HCO
      have HM := Lib.hid hm
      clear hm
      obtain ⟨a6, c6, rfl, _⟩ := HCO.out.vs
      have x0 : 0 ≤ P * (n : Int) := Int.mul_nonneg hP0 (by omega)
      have x1 : P * (n : Int) ≤ 1073741824 * 6 := Int.mul_le_mul hP1 (by omega) (by omega) (by omega)
      have x2 : 0 ≤ (cn : Int) * (n : Int) := Int.mul_nonneg (by omega) (by omega)
      have x3 : (cn : Int) * (n : Int) ≤ 12 * 6 := Int.mul_le_mul (by omega) (by omega) (by omega) (by omega)
      have hW1 : IntKind.i64.wrap (P * (n : Int)) = P * (n : Int) := IntWalk.i64_in _ (by omega)
      have hW2 : IntKind.i64.wrap ((cn : Int) * (n : Int)) = (cn : Int) * (n : Int) := IntWalk.i64_in _ (by omega)
      obtain ⟨Y, hY⟩ : ∃ Y, P * (n : Int) = Y := ⟨_, rfl⟩
      obtain ⟨X, hX⟩ : ∃ X, (cn : Int) * (n : Int) = X := ⟨_, rfl⟩
      rw [hY] at hW1 x0 x1
      rw [hX] at hW2 x2 x3
      have e0 : wo.cell? ⟨b, 0, none⟩ = some (.int .i64 P) := HA.out.boxc 0
      have e1 : wo.cell? ⟨b, 1, none⟩ = some (.int .i64 (cn : Int)) := HA.out.boxc 1
      have c0 : wo.cell? ⟨bo, 0, none⟩ = some (.int .i64 P) := HA.out.cell 0
      have c1 : wo.cell? ⟨bo, 1, none⟩ = some (.int .i64 (cn : Int)) := HA.out.cell 1
      have c2 : wo.cell? ⟨bo, 2, none⟩ = some (.slice a6 m c6) := HA.out.cell 2
      have c3 : wo.cell? ⟨bo, 3, none⟩ = some (.slice a4 on c4) := HA.out.cell 3
      have g0 := free_block HA.out.blk 0
      have g1 := free_block HA.out.blk 1
      go_upto_region 13 with fail
      go_region
      have HB5 := Lib.hid (put_10 HA.out.blk (.int .i64 X) (.int .i64 Y))
      have HG5 := Lib.hid (grown_10 wo bo (.int .i64 X) (.int .i64 Y))
      generalize hw5 : ((wo.setCell ⟨bo, 1, none⟩ (.int .i64 X)).setCell ⟨bo, 0, none⟩ (.int .i64 Y)).drew = w5
      rw [hw5] at HB5 HG5
      clear hw5 e0 e1 c0 c1 c2 c3 g0 g1 hW1 hW2
      have HR5 := Lib.hid ((HG5.out.block ro (Array.getElem?_eq_some_iff.1 HA.out.res).1 (fun e => by cases e; exact HA.out.n3 rfl)).trans HA.out.res)
      have HBW5 := Lib.hid (HA.out.bw.grown HG5.out HA.out.bw.size (fun q e => by cases e; exact HA.out.lo))
      have off5 : ∀ e : Nat, 25 ≠ e → Off wo w.heap.size e (some bo) := fun e he q z => by
        cases z
        exact .inr ⟨_, 25, HA.out.blk, he⟩
      have HCO5 := Lib.hid (HCO.out.grown HG5.out (off5 _ (by decide)) (off5 _ (by decide)))
      have HOO5 := Lib.hid (HOO.out.grown HG5.out (off5 _ (by decide)) (off5 _ (by decide)))
      have HLO := Lib.hid HA.out.lo2
      clear HA HG5 HCO HOO off5
      have c0 : w5.cell? ⟨bo, 0, none⟩ = some (.int .i64 Y) := cell_block HB5.out 0
      have c1 : w5.cell? ⟨bo, 1, none⟩ = some (.int .i64 X) := cell_block HB5.out 1
      have c2 : w5.cell? ⟨bo, 2, none⟩ = some (.slice a6 m c6) := cell_block HB5.out 2
      have c3 : w5.cell? ⟨bo, 3, none⟩ = some (.slice a4 on c4) := cell_block HB5.out 3
      have r0 := cell_block HR5.out 0
      have r1 := cell_block HR5.out 1
      have r2 := cell_block HR5.out 2
      have r3 := cell_block HR5.out 3
      have f0 := free_block HR5.out 0
      have f1 := free_block HR5.out 1
      have f2 := free_block HR5.out 2
      have f3 := free_block HR5.out 3
      have HRS := Lib.hid (put_four HR5.out (.int .i64 Y) (.int .i64 X) (.slice a6 m c6) (.slice a4 on c4))
      have HGF := Lib.hid (grown_four w5 ro (.int .i64 Y) (.int .i64 X) (.slice a6 m c6) (.slice a4 on c4))
      go_wp2_with fail
      generalize hwf : (((w5.setCell ⟨ro, 0, none⟩ (.int .i64 Y)).setCell ⟨ro, 1, none⟩ (.int .i64 X)).setCell ⟨ro, 2, none⟩ (.slice a6 m c6)).setCell ⟨ro, 3, none⟩ (.slice a4 on c4) = wf
      rw [hwf] at HRS HGF
      clear hwf c0 c1 c2 c3 r0 r1 r2 r3 f0 f1 f2 f3
      have HBW := Lib.hid (HBW5.out.grown HGF.out HBW5.out.size (fun q e => by cases e; exact HLO.out))
      have off5 : ∀ e : Nat, 25 ≠ e → Off w5 w.heap.size e (some ro) := fun e he q z => by
        cases z
        exact .inr ⟨_, 25, HR5.out, he⟩
      obtain ⟨_, _, u1, hc6⟩ := (HCO5.out.grown HGF.out (off5 _ (by decide)) (off5 _ (by decide))).vs
      obtain ⟨_, _, u2, ho6⟩ := (HOO5.out.grown HGF.out (off5 _ (by decide)) (off5 _ (by decide))).vs
      cases u1
      cases u2
      have r0 : wf.cell? ⟨ro, 0, none⟩ = some (.int .i64 Y) := cell_block HRS.out 0
      have r1 : wf.cell? ⟨ro, 1, none⟩ = some (.int .i64 X) := cell_block HRS.out 1
      have r2 : wf.cell? ⟨ro, 2, none⟩ = some (.slice a6 m c6) := cell_block HRS.out 2
      have r3 : wf.cell? ⟨ro, 3, none⟩ = some (.slice a4 on c4) := cell_block HRS.out 3
      refine bodyPost_ret (v := .tuple #[.agg #[.int .i64 Y, .int .i64 X, .slice a6 m c6, .slice a4 on c4], .bool true]) (by simp [results, Try.results21, go_sem, r0, r1, r2, r3]) rfl ⟨Y, X, _, _, _, _, _, _, seqC cs P (cn : Int) m, os, true, rfl, Lib.hid ?_, Lib.hid (fun _ => ⟨hY.symm, hX.symm, ?_, rfl⟩), HBW⟩
      · exact fv_mk ⟨⟨by omega, by omega⟩, by omega, by omega⟩ hc6 ho6 (seqC_short (fun l hl => Nat.le_trans (S1.out l hl) (by decide))) SH.out
      · show seqC cs P (cn : Int) m = seqC cs P (cn : Int) (cs.length * n)
        rw [LC.out, HM.out]
theorem vsod_snoc {w : World} {vs : List Value} {T : List Gr} {X : Int} {L : List Sp} {ao : Option Addr} {n c : Nat} (h : VsOd w vs T) (hL : SpAt w ao n c L) (h1 : -9223372036854775808 ≤ X) (h2 : X ≤ 9223372036854775807) : VsOd w (vs ++ [.int .i64 X, .slice ao n c]) (T ++ [(X, L)]) := by
  have hl := h.len
  refine ⟨by simp [hl]; omega, fun i hi => ?_⟩
  by_cases q : i < T.length
  · obtain ⟨a, ⟨o, k, d, b1, b2⟩, e⟩ := h.at_ i q
    rw [List.getElem_append_left q, List.getElem?_append_left (by omega), List.getElem?_append_left (by omega)]
    exact ⟨a, ⟨o, k, d, b1, b2⟩, e⟩
  · have e : i = T.length := by simp at hi; omega
    subst e
    rw [List.getElem_append_right (Nat.le_refl _), List.getElem?_append_right (by omega), List.getElem?_append_right (by omega)]
    simp only [hl, Nat.sub_self, show T.length * 2 + 1 - T.length * 2 = 1 by omega, List.getElem_singleton]
    exact ⟨rfl, ⟨ao, n, c, rfl, hL⟩, h1, h2⟩
/-- A set that is read, whatever is written into a block. -/
def Sp5 (w5 : World) (g : Nat) (ao : Option Addr) (n c : Nat) (L : List Sp) : Prop := ∀ W, w5.grownBy W (some g) → SpAt W ao n c L
theorem sp5_old {v1 w5 : World} {g : Nat} {ao : Option Addr} {n c : Nat} {L : List Sp} (h : SpAt v1 ao n c L) (k : Below v1.heap.size v1 w5) (hg : v1.heap.size ≤ g) : Sp5 w5 g ao n c L := fun W q => h.keep (k.grown q k.size (fun r e => by cases e; exact hg))
theorem sp5_own {w5 : World} {g B n : Nat} {v : Value} {L : List Sp} (h : w5.ownsRow B 46 2 v n (spCells L)) (hl : L.length = n) (hg : g < B) : ∃ ao c, v = .slice ao n c ∧ Sp5 w5 g ao n c L := by
  obtain ⟨ao, c, rfl, _⟩ := own_sp hl h
  refine ⟨ao, c, rfl, fun W q => ?_⟩
  obtain ⟨ao', c', e, z⟩ := own_sp hl (own_off h q (fun r e => by cases e; exact .inl hg))
  cases e
  exact z
/-- Exceptions under way: a row of the call's own. -/
structure Ex5 (w5 : World) (g : Nat) (w : World) (v : Value) (T : List Gr) : Prop where
  bw : Below w5.heap.size w5 w
  row : ∃ vs, w.ownsRow w5.heap.size 43 2 v T.length vs ∧ ∀ W, w5.grownBy W (some g) → VsOd W vs T
theorem Ex5.keep {w5 w w' : World} {g : Nat} {v : Value} {T : List Gr} (h : Ex5 w5 g w v T) (k : Below w.heap.size w w') : Ex5 w5 g w' v T := by
  obtain ⟨vs, a, b⟩ := h.row
  exact ⟨h.bw.trans (k.mono h.bw.size), vs, keepB a k, b⟩
theorem Ex5.nil (w5 : World) (g : Nat) : Ex5 w5 g w5 (.slice none 0 0) [] := ⟨Below.refl _ _, [], World.ownsRow_nil _ _ _ _, fun W _ => ⟨rfl, fun i hi => absurd hi (Nat.not_lt_zero _)⟩⟩
theorem Ex5.put {w5 w : World} {g : Nat} {v : Value} {T : List Gr} (h : Ex5 w5 g w v T) (hg : g < w5.heap.size) (u : Value) : ∃ ao c, v = .slice ao T.length c ∧ OdAt (w.setCell ⟨g, 3, none⟩ u) ao T.length c T := by
  obtain ⟨vs, a, b⟩ := h.row
  have hgr : w5.grownBy (w.setCell ⟨g, 3, none⟩ u) (some g) := (show w5.grownBy w (some g) from ⟨h.bw.os, h.bw.tape, h.bw.output, h.bw.size, fun k hk _ => h.bw.block k hk⟩).andThen (grown_cell w ⟨g, 3, none⟩ u) (fun j e => .inr e)
  exact own_od (own_off a (grown_cell w ⟨g, 3, none⟩ u) (fun r e => by cases e; exact .inl hg)) rfl (b _ hgr)
theorem Ex5.lt {w5 w : World} {g : Nat} {v : Value} {T : List Gr} (h : Ex5 w5 g w v T) (q : Nat) (e : v.ownBlock = some q) : q < w.heap.size := by
  obtain ⟨vs, a, b⟩ := h.row
  exact (a.lt q e).2
theorem Ex5.shape {w5 w : World} {g : Nat} {v : Value} {T : List Gr} (h : Ex5 w5 g w v T) (hg : g < w5.heap.size) : ∃ ao c, v = .slice ao T.length c := by
  obtain ⟨ao, c, e, _⟩ := h.put hg (.int .i64 0)
  exact ⟨ao, c, e⟩
/-- One exception more. -/
theorem appG {w5 wr : World} {g : Nat} {ops : Array Oper} {rest : List Oper} {o : Oper} {a : Act} {Q : Exit → Act → World → Prop} (hgd : o.guard = none) (s x : Operand)
    (ho : o.op = .call { callee := .builtin .append, args := #[s, x], argTypes := #[23, 23] }) (v : Value) (T : List Gr) (hs : a.eval s = v) (he : Ex5 w5 g wr v T) (hg : g < w5.heap.size) (X : Int) (ao : Option Addr) (n c : Nat) (L : List Sp) (hL : Sp5 w5 g ao n c L) (h1 : -9223372036854775808 ≤ X) (h2 : X ≤ 9223372036854775807) (hx : a.eval x = .slice (some ⟨wr.heap.size, 0, none⟩) 1 1) (hn : T.length ≤ 1000000)
    (h : ∀ a2 n2 c2 w', Ex5 w5 g w' (.slice a2 n2 c2) (T ++ [(X, L)]) → (∀ bx, (∀ q, v.ownBlock = some q → q ≠ bx) → bx < wr.heap.size → w'.heap[bx]? = wr.heap[bx]?) → wpList Try.prog ops Q rest (a.put o.dst (.slice a2 n2 c2)) w') : wpList Try.prog ops Q (o :: rest) a (wr.alloc (.cells #[.int .i64 X, .slice ao n c] 43)) := by
  obtain ⟨k0, hk, hkz0, hkz1, hkz2⟩ := info_parts info43
  obtain ⟨vs, hown, hvs⟩ := he.row
  have KA := (Below.refl _ wr).alloc (Nat.le_refl _) (.cells #[.int .i64 X, .slice ao n c] 43)
  refine wpList_append_own_at _ hgd s x 23 ho w5.heap.size 43 k0 (.agg #[.int .i64 0, .slice none 0 0]) 2 32 Try.underlying23 hk hkz0 hkz1 hkz2 rfl (by decide) v T.length vs hs (keepB hown KA) ⟨wr.heap.size, 0, none⟩ 1 1 [.int .i64 X, .slice ao n c] hx rfl (World.news_of_block (cs := #[.int .i64 X, .slice ao n c]) (t := 43) (fr := (0, 0)) (World.alloc_heap_new wr _)) (by simp [Value.oneCell']) (by unfold maxLen; omega) (by omega) (by have := he.bw.size; simp; omega) ?_
  intro v' w' hown' hgro _ _
  have hb : Below w5.heap.size w5 w' := (he.bw.trans (KA.mono he.bw.size)).grown hgro (he.bw.trans (KA.mono he.bw.size)).size (fun q e => (hown.lt q e).1)
  have hN : Ex5 w5 g w' v' (T ++ [(X, L)]) := ⟨hb, vs ++ [.int .i64 X, .slice ao n c], by rw [List.length_append]; exact hown', fun W q => vsod_snoc (hvs W q) (hL W q) h1 h2⟩
  obtain ⟨a2, c2, rfl⟩ := hN.shape hg
  exact h a2 _ c2 w' hN (fun bx hne hlt => (hgro.block bx (by simp; omega) (fun e => hne bx e.symm rfl)).trans (KA.block bx hlt))
/-- What is put together: exceptions that are as they would be. -/
structure PutT (os : List Gr) (a : Int) (L : List Sp) (E : Prop) (j : Nat) (T : List Gr) : Prop where
  len : T.length ≤ 2 * j + 1
  old : ∀ o ∈ os.take j, o ∈ T
  new : ∀ o ∈ T, o ∈ os ∨ (o = (a, L) ∧ E)
theorem PutT.zero (os : List Gr) (a : Int) (L : List Sp) (E : Prop) : PutT os a L E 0 [] := ⟨by simp, fun o h => by simp at h, fun o h => by cases h⟩
theorem PutT.step {os : List Gr} {a : Int} {L : List Sp} {E : Prop} {j : Nat} {T : List Gr} (h : PutT os a L E j T) (hj : j < os.length) {X : Int} {M : List Sp} (e : os[j] = (X, M)) : PutT os a L E (j + 1) (T ++ [(X, M)]) := by
  have hl := h.len
  refine ⟨by simp; omega, fun o ho => ?_, fun o ho => ?_⟩
  · rw [List.take_succ_eq_append_getElem hj, e] at ho
    rcases List.mem_append.1 ho with q | q
    · exact List.mem_append.2 (.inl (h.old o q))
    · exact List.mem_append.2 (.inr q)
  · rcases List.mem_append.1 ho with q | q
    · exact h.new o q
    · rw [List.mem_singleton] at q; rw [q, ← e]; exact .inl (List.getElem_mem hj)
theorem PutT.step2 {os : List Gr} {a : Int} {L : List Sp} {E : Prop} {j : Nat} {T : List Gr} (h : PutT os a L E j T) (hE : E) (hj : j < os.length) {X : Int} {M : List Sp} (e : os[j] = (X, M)) : PutT os a L E (j + 1) ((T ++ [(a, L)]) ++ [(X, M)]) := by
  have hl := h.len
  refine ⟨by simp; omega, fun o ho => ?_, fun o ho => ?_⟩
  · rw [List.take_succ_eq_append_getElem hj, e] at ho
    rcases List.mem_append.1 ho with q | q
    · exact List.mem_append.2 (.inl (List.mem_append.2 (.inl (h.old o q))))
    · exact List.mem_append.2 (.inr q)
  · rcases List.mem_append.1 ho with q | q
    · rcases List.mem_append.1 q with q | q
      · exact h.new o q
      · exact .inr ⟨List.mem_singleton.1 q, hE⟩
    · rw [List.mem_singleton] at q; rw [q, ← e]; exact .inl (List.getElem_mem hj)
structure PutF (os : List Gr) (a : Int) (L : List Sp) (E : Prop) (T : List Gr) : Prop where
  len : T.length ≤ 2 * os.length + 2
  old : ∀ o ∈ os, o ∈ T
  new : ∀ o ∈ T, o ∈ os ∨ (o = (a, L) ∧ E)
theorem PutT.fin {os : List Gr} {a : Int} {L : List Sp} {E : Prop} {T : List Gr} (h : PutT os a L E os.length T) : PutF os a L E T := ⟨by have := h.len; omega, fun o ho => h.old o (by rw [List.take_length]; exact ho), h.new⟩
theorem PutT.fin2 {os : List Gr} {a : Int} {L : List Sp} {E : Prop} {T : List Gr} (h : PutT os a L E os.length T) (hE : E) : PutF os a L E (T ++ [(a, L)]) := by
  have hl := h.len
  refine ⟨by simp; omega, fun o ho => List.mem_append.2 (.inl (h.old o (by rw [List.take_length]; exact ho))), fun o ho => ?_⟩
  rcases List.mem_append.1 ho with q | q
  · exact h.new o q
  · exact .inr ⟨List.mem_singleton.1 q, hE⟩
theorem PutF.short {os : List Gr} {a : Int} {L : List Sp} {E : Prop} {T : List Gr} {m : Nat} (h : PutF os a L E T) (h1 : ∀ o ∈ os, o.2.length ≤ m) (h2 : L.length ≤ m) : ∀ o ∈ T, o.2.length ≤ m := fun o ho => by
  rcases h.new o ho with q | ⟨q, _⟩
  · exact h1 o q
  · rw [q]; exact h2
/-- What is put together: an exception that is not as it would be. -/
structure PutU (os : List Gr) (a : Int) (L : List Sp) (j : Nat) (p : Bool) (T : List Gr) : Prop where
  len : T.length ≤ 2 * j + 1
  has : p = true → (a, L) ∈ T
  new : ∀ o ∈ T, o ∈ os ∨ o = (a, L)
theorem PutU.zero (os : List Gr) (a : Int) (L : List Sp) : PutU os a L 0 false [] := ⟨by simp, (fun h => by cases h), (fun o h => by cases h)⟩
theorem PutU.skip {os : List Gr} {a : Int} {L : List Sp} {j : Nat} {p : Bool} {T : List Gr} (h : PutU os a L j p T) : PutU os a L (j + 1) p T := ⟨by have := h.len; omega, h.has, h.new⟩
theorem PutU.step {os : List Gr} {a : Int} {L : List Sp} {j : Nat} {p : Bool} {T : List Gr} (h : PutU os a L j p T) (hj : j < os.length) {X : Int} {M : List Sp} (e : os[j] = (X, M)) : PutU os a L (j + 1) p (T ++ [(X, M)]) := by
  have hl := h.len
  refine ⟨by simp; omega, fun q => List.mem_append.2 (.inl (h.has q)), fun o ho => ?_⟩
  rcases List.mem_append.1 ho with q | q
  · exact h.new o q
  · rw [List.mem_singleton] at q; rw [q, ← e]; exact .inl (List.getElem_mem hj)
theorem PutU.ins {os : List Gr} {a : Int} {L : List Sp} {j : Nat} {p : Bool} {T : List Gr} (h : PutU os a L j p T) : PutU os a L (j + 1) true (T ++ [(a, L)]) := by
  have hl := h.len
  refine ⟨by simp; omega, fun _ => List.mem_append.2 (.inr (List.mem_singleton.2 rfl)), fun o ho => ?_⟩
  rcases List.mem_append.1 ho with q | q
  · exact h.new o q
  · exact .inr (List.mem_singleton.1 q)
theorem PutU.step2 {os : List Gr} {a : Int} {L : List Sp} {j : Nat} {p : Bool} {T : List Gr} (h : PutU os a L j p T) (hj : j < os.length) {X : Int} {M : List Sp} (e : os[j] = (X, M)) : PutU os a L (j + 1) true ((T ++ [(a, L)]) ++ [(X, M)]) := by
  have hl := h.len
  refine ⟨by simp; omega, fun _ => List.mem_append.2 (.inl (List.mem_append.2 (.inr (List.mem_singleton.2 rfl)))), fun o ho => ?_⟩
  rcases List.mem_append.1 ho with q | q
  · rcases List.mem_append.1 q with q | q
    · exact h.new o q
    · exact .inr (List.mem_singleton.1 q)
  · rw [List.mem_singleton] at q; rw [q, ← e]; exact .inl (List.getElem_mem hj)
theorem small_short {F : Fv} (h : F.Small) : (∀ l ∈ F.cs, l.length ≤ 60) ∧ ∀ o ∈ F.os, o.2.length ≤ 60 := by
  have hs : lens F.cs + lens (tks F.os) ≤ 60 := h.2.2
  have key : ∀ {ls : List (List Sp)} {l : List Sp}, l ∈ ls → l.length ≤ lens ls := fun {ls} => by
    induction ls with
    | nil => intro l h; cases h
    | cons x r ih =>
      intro l h
      rcases List.mem_cons.1 h with q | q
      · rw [q]; simp [lens]
      · have := ih q; simp [lens]; omega
  refine ⟨fun l hl => Nat.le_trans (key hl) (by omega), fun o ho => Nat.le_trans (key (ls := tks F.os) (List.mem_map.2 ⟨o, ho, rfl⟩)) (by omega)⟩
theorem cg_short' {cs : List (List Sp)} {P N : Int} {m : Nat} (h : ∀ l ∈ cs, l.length ≤ m) (i : Int) : (cg cs P N i).length ≤ m := by
  unfold cg
  split
  · unfold moved cset
    rw [List.length_map, List.getD_eq_getElem?_getD]
    cases e : cs[(i.fmod N).toNat]? with
    | none => exact Nat.zero_le _
    | some l => exact h _ (List.mem_of_getElem? e)
  · exact Nat.zero_le _
theorem gr_short {F : Fv} (h : F.Small) (i : Int) : (gr F i).length ≤ 60 := by
  have hs := small_short h
  unfold gr
  cases e : exc F.os i with
  | none => exact cg_short' hs.1 i
  | some l =>
    obtain ⟨n, hn, q1, q2⟩ := exc_some e
    show l.length ≤ 60
    rw [← q2]
    exact hs.2 _ (List.getElem_mem hn)
/-- A form with few sets, all of them short, is small enough. -/
theorem mid_of {F : Fv} (h1 : F.cs.length ≤ 100) (h2 : F.os.length ≤ 100) (l1 : F.cs.length = F.cn) (l2 : F.os.length = F.on) (s1 : ∀ l ∈ F.cs, l.length ≤ 60) (s2 : ∀ o ∈ F.os, o.2.length ≤ 60) : F.Mid := by
  have a := lens_le s1
  have b := lens_le (ls := tks F.os) (m := 60) (fun l hl => by obtain ⟨o, ho, rfl⟩ := List.mem_map.1 hl; exact s2 o ho)
  rw [List.length_map] at b
  refine ⟨by omega, by omega, ?_⟩
  unfold Fv.size
  omega
/-- Two forms, boxed. -/
structure Duo (w W : World) (b1 b2 : Nat) (Fa Fb : Fv) : Prop where
  a : Fbox Fa w W b1
  b : Fbox Fb w W b2
theorem Duo.keep {w W W' : World} {b1 b2 : Nat} {Fa Fb : Fv} (h : Duo w W b1 b2 Fa Fb) (k : Below W.heap.size W W') : Duo w W' b1 b2 Fa Fb := ⟨h.a.keep k, h.b.keep k⟩
theorem canEq_same {F H G K : Fv} (h : IsCan F G) (k : IsCan H K) : CanEq F H ↔ SameF G K := canEq_iff h k
theorem same_of {F G K : Fv} (h : IsCan F G) (k : IsCan F K) : SameF G K := isCan_unique h k
theorem free_in {w : World} {b : Nat} {c : Array Value} {t : TypeId} (h : w.heap[b]? = some (.cells c t (0, 0))) (k : Nat) : w.frozen? ⟨b, k, none⟩ = false := by
  unfold World.frozen?; rw [h]; simp
/-- The exceptions, put into the second form. -/
theorem duo_put {F G : Fv} {w v1 v2 v4 W : World} {b b2 n9 c9 : Nat} {a9 : Option Addr} {T : List Gr} (hF : F.At w) (k1 : Below w.heap.size w v1) (lo : w.heap.size ≤ b) (B1 : v1.heap[b]? = some (.cells F.box 25 (0, 0))) (hG : G.At v1) (h2 : v1.heap.size = b2) (k2 : Below v1.heap.size v1 v2) (B2 : v2.heap[b2]? = some (.cells G.box 25 (0, 0))) (k4 : Below v2.heap.size v2 v4) (hE : Ex5 v4 b2 W (.slice a9 n9 c9) T) (hT : ∀ o ∈ T, o.2.length ≤ 10000000000000) :
    Duo w (W.setCell ⟨b2, 3, none⟩ (.slice a9 n9 c9)) b b2 F ⟨G.P, G.N, G.co, G.cn, G.cc, a9, n9, c9, G.cs, T⟩ ∧ T.length = n9 ∧ W.cell? ⟨b2, 3, none⟩ = some (.slice G.oo G.on G.oc) ∧ W.frozen? ⟨b2, 3, none⟩ = false := by
  have l1 : b < v1.heap.size := (Array.getElem?_eq_some_iff.1 B1).1
  obtain ⟨_, _, e⟩ := hE.shape (Nat.lt_of_lt_of_le (Array.getElem?_eq_some_iff.1 B2).1 k4.size)
  cases e
  have l2 : b2 < v2.heap.size := (Array.getElem?_eq_some_iff.1 B2).1
  have l4 : b2 < v4.heap.size := Nat.lt_of_lt_of_le l2 k4.size
  have B4 : W.heap[b2]? = some (.cells G.box 25 (0, 0)) := (hE.bw.block b2 l4).trans ((k4.block b2 l2).trans B2)
  have hg := grown_cell W ⟨b2, 3, none⟩ (.slice a9 T.length c9)
  have kv : Below v1.heap.size v1 W := (k2.trans (k4.mono k2.size)).trans (hE.bw.mono (Nat.le_trans k2.size k4.size))
  have kf : Below v1.heap.size v1 (W.setCell ⟨b2, 3, none⟩ (.slice a9 T.length c9)) := kv.setCell (p := ⟨b2, 3, none⟩) (by show v1.heap.size ≤ b2; omega) _
  have kw := k1.trans (kf.mono k1.size)
  obtain ⟨ao, c, e, ho⟩ := hE.put l4 (.slice a9 T.length c9)
  cases e
  refine ⟨⟨fbox_at (hF.keep kw) ((kf.block b l1).trans B1) kw, fbox_at ⟨hG.p1, hG.p2, hG.n1, hG.n2, hG.core.keep kf, ho, hG.short.1, hT⟩ (by rw [set_block B4]; rfl) kw⟩, rfl, cell_block B4 3, free_in B4 3⟩
/-- A form that is not right. -/
theorem right_no50 (F : Fv) (hs : F.Mid) (rt : ¬ F.Rt) (W : World) (h : F.At W) : Calls Try.prog 19 #[F.v] W fun e w' => e = .returned (.int .i64 50) ∧ Below W.heap.size W w' := right_mid F W h hs false ⟨(fun e => by cases e), (fun e => absurd e rt)⟩
end Go.Proofs.Ytkhnoikdfelheaa
