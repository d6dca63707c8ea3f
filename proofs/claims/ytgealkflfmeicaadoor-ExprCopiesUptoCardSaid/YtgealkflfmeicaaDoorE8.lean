/- Names. -/
import Derived.Test.YtgealkflfmeicaaDoorE7
import Derived.Maps.Own
import Derived.Maps.OwnOps
import Derived.Maps.OwnSet
import Derived.Maps.Views
import Derived.StringKeys
namespace Go.Proofs.YtgealkflfmeicaaDoor
set_option linter.unusedVariables false
set_option linter.unusedSimpArgs false
open Go.ChangeShapes Go.WideShapes Go.ChangeAt Go.RowKit
open Go.Maps
theorem klaw : Keyed Tryd.prog 9 := string_keyed Tryd.underlying9
theorem zero3 (w : World) : (zeroValue 3).run Tryd.prog w = .ok (.int .i64 0) w := by kernel_rfl
theorem info9 : (Tryd.prog.info? 9).map (fun i => (i.zero, i.size, i.bytes)) = some (some (.string ⟨#[]⟩), 1, 16) := by kernel_rfl
/-- What a name is as a key. -/
def kl (s : ByteArray) : Lit := .string s.data.toList
theorem kl_inj {s t : ByteArray} (h : kl s = kl t) : s = t := by
  obtain ⟨⟨x⟩⟩ := s
  obtain ⟨⟨y⟩⟩ := t
  have : x = y := by simpa [kl] using h
  rw [this]
theorem kl_key {s : ByteArray} (h : s.size ≤ maxLen) : keyOf Tryd.prog 9 (.string s) = some (kl s) := Go.WideMaps.keyOf_string_mk Tryd.underlying9 h
theorem appS {ops : Array Oper} {rest : List Oper} {o : Oper} {a : Act} {Q : Exit → Act → World → Prop} (hgd : o.guard = none) (s x : Operand)
    (ho : o.op = .call { callee := .builtin .append, args := #[s, x], argTypes := #[34, 34] }) (base : Nat) (w : World) (v : Value) (n : Nat) (xs : List Value) (hs : a.eval s = v) (hown : w.ownsRow base 9 1 v n xs) (b m : Nat) (cs : Array Value) (hx : a.eval x = .slice (some ⟨b, 0, none⟩) m m) (hb : w.heap[b]? = some (.cells cs 9 (0, 0))) (hl : cs.toList.length = m) (h1 : ∀ u ∈ cs.toList, u.oneCell' = true) (hn : n + m ≤ 4194304) (hbase : base ≤ w.heap.size)
    (h : ∀ v' w', w'.ownsRow base 9 1 v' (n + m) (xs ++ cs.toList) → w.grownBy w' v.ownBlock → wpList Tryd.prog ops Q rest (a.put o.dst v') w') : wpList Tryd.prog ops Q (o :: rest) a w := by
  obtain ⟨k0, hk, hkz0, hkz1, hkz2⟩ := info_parts info9
  exact wpList_append_own_at _ hgd s x 34 ho base 9 k0 (.string ⟨#[]⟩) 1 16 Tryd.underlying34 hk hkz0 hkz1 hkz2 rfl (by decide) v n xs hs hown ⟨b, 0, none⟩ m m cs.toList hx (by rw [hl, Nat.mul_one]) (fun j u hj => by
      rw [show (Addr.add ⟨b, 0, none⟩ j) = ⟨b, j, none⟩ by simp only [Addr.add, Nat.zero_add]; split <;> simp_all, cell_blk hb j]
      simpa using hj) h1 (by unfold maxLen; omega) (by omega) hbase (fun v' w' a b _ _ => h v' w' a b)
theorem Kp.grown {w w' : World} {row : Option Nat} (h : w.grownBy w' row) (hr : ∀ q, row = some q → ∀ (c : Array Value) (t : TypeId), t = 25 ∨ t = 48 → w.heap[q]? ≠ some (Obj.cells c t (0, 0))) : Kp w w' :=
  ⟨h.size, fun q c t ht e => (h.block q (Array.getElem?_eq_some_iff.1 e).1 (fun z => hr q z.symm c t ht e)).trans e⟩
noncomputable def isIn (s : ByteArray) (l : List ByteArray) : Bool := @decide (s ∈ l) (Classical.propDecidable _)
theorem isIn_iff (s : ByteArray) (l : List ByteArray) : isIn s l = true ↔ s ∈ l := @decide_eq_true_iff _ (Classical.propDecidable _)
/-- The names, so far. -/
noncomputable def nStep (l : List ByteArray) (p : Pt) (d : Int) : List ByteArray × Bool := (if isIn p.nm l = true ∨ p.nm = ⟨#[]⟩ then l else l ++ [p.nm], true)
theorem nStep_len (l : List ByteArray) (p : Pt) (d : Int) : (nStep l p d).1.length ≤ l.length + 1 := by
  unfold nStep; dsimp only; split <;> simp
/-- The list of names, and the map of their places. -/
structure NmI (w0 : World) (nv mv mb : Nat) (l : List ByteArray) (W : World) : Prop where
  bw : Below w0.heap.size w0 W
  lo1 : w0.heap.size ≤ nv
  lo2 : w0.heap.size ≤ mv
  lo3 : w0.heap.size ≤ mb
  n1 : nv ≠ mv
  n2 : nv ≠ mb
  n3 : mv ≠ mb
  cm : W.heap[mv]? = some (.cells #[.map (some mb)] 51 (0, 0))
  row : ∃ v, W.heap[nv]? = some (.cells #[v] 34 (0, 0)) ∧ W.ownsRow w0.heap.size 9 1 v l.length (l.map Value.string)
  mp : ∃ D : DataW Unit, W.ownsMap Tryd.prog 9 (plainElem Tryd.prog 3) mb l.length D ∧ IsMap D ∧ ∀ s, has D (kl s) = isIn s l
theorem own_kind {w : World} {B e s n : Nat} {v : Value} {xs : List Value} (h : w.ownsRow B e s v n xs) {g : Nat} (hg : v.ownBlock = some g) : ∃ cur, w.heap[g]? = some (.cells cur e (0, 0)) := by
  rcases h.2 with ⟨rfl, _⟩ | ⟨g', cap, cur, rfl, _, e1, _⟩
  · cases hg
  · cases hg; exact ⟨cur, e1⟩
theorem keepB {w w' : World} {B e s n : Nat} {v : Value} {xs : List Value} (h : w.ownsRow B e s v n xs) (b : Below w.heap.size w w') : w'.ownsRow B e s v n xs := by
  refine ⟨h.1, ?_⟩
  rcases h.2 with hn | ⟨g, cap, cur, hv, hb, hg, rest⟩
  · exact .inl hn
  · exact .inr ⟨g, cap, cur, hv, hb, (b.block g (Array.getElem?_eq_some_iff.1 hg).1).trans hg, rest⟩
theorem grown_of_below {w w' : World} (h : Below w.heap.size w w') : w.grownBy w' none := ⟨h.os, h.tape, h.output, h.size, fun k hk _ => h.block k hk⟩
theorem NmI.keep {w0 W W' : World} {nv mv mb : Nat} {l : List ByteArray} (h : NmI w0 nv mv mb l W) (q : Below W.heap.size W W') : NmI w0 nv mv mb l W' := by
  obtain ⟨v, a, b⟩ := h.row
  obtain ⟨D, c, i, d⟩ := h.mp
  exact ⟨h.bw.trans (q.mono h.bw.size), h.lo1, h.lo2, h.lo3, h.n1, h.n2, h.n3, (q.block mv (Array.getElem?_eq_some_iff.1 h.cm).1).trans h.cm, ⟨v, (q.block nv (Array.getElem?_eq_some_iff.1 a).1).trans a, keepB b q⟩, D, c.kept (grown_of_below q) (by simp), i, d⟩
theorem row_shape {w : World} {B n : Nat} {v : Value} {xs : List Value} (h : w.ownsRow B 9 1 v n xs) : ∃ ao c, v = .slice ao n c := by
  rcases h.2 with ⟨rfl, rfl⟩ | ⟨g, cap, cur, rfl, _⟩
  · exact ⟨none, 0, rfl⟩
  · exact ⟨_, cap, rfl⟩
/-- A name that is put behind the others. -/
theorem NmI.app {w0 w1 w2 w6 : World} {nv mv mb : Nat} {l : List ByteArray} {s : ByteArray} {v v6 : Value} {D : DataW Unit} {k : DataW Unit} (h : NmI w0 nv mv mb l w1) (hv : w1.heap[nv]? = some (.cells #[v] 34 (0, 0))) (hr : w1.ownsRow w0.heap.size 9 1 v l.length (l.map Value.string)) (hm : w1.ownsMap Tryd.prog 9 (plainElem Tryd.prog 3) mb l.length D) (hi : IsMap D) (hh : ∀ s, has D (kl s) = isIn s l) (g2 : w1.grownBy w2 (some mb)) (m2 : w2.ownsMap Tryd.prog 9 (plainElem Tryd.prog 3) mb (l.length + 1) (D.put (kl s) k))
    (o6 : w6.ownsRow w0.heap.size 9 1 v6 (l.length + 1) (l.map Value.string ++ [.string s])) (g6 : (w2.alloc (.cells #[.string s] 9)).grownBy w6 v.ownBlock) :
    w6.heap[nv]? = some (.cells #[v] 34 (0, 0)) ∧ NmI w0 nv mv mb (l ++ [s]) (w6.setCell ⟨nv, 0, none⟩ v6) ∧ Kp w1 (w6.setCell ⟨nv, 0, none⟩ v6) := by
  obtain ⟨es, ck, hmb, _⟩ := hm
  have lm := (Array.getElem?_eq_some_iff.1 hmb).1
  have lnv := (Array.getElem?_eq_some_iff.1 hv).1
  have lmv := (Array.getElem?_eq_some_iff.1 h.cm).1
  have B2 : Below w0.heap.size w0 w2 := h.bw.grown g2 h.bw.size (fun q e => by cases e; exact h.lo3)
  have A2 : Below w2.heap.size w2 (w2.alloc (.cells #[.string s] 9)) := (Below.refl _ w2).alloc (Nat.le_refl _) _
  have B3 : Below w0.heap.size w0 (w2.alloc (.cells #[.string s] 9)) := B2.trans (A2.mono B2.size)
  have vk : ∀ q, v.ownBlock = some q → ∃ cur, w1.heap[q]? = some (.cells cur 9 (0, 0)) := fun q e => own_kind hr e
  have vlo : ∀ q, v.ownBlock = some q → w0.heap.size ≤ q := fun q e => (hr.lt q e).1
  have B6 : Below w0.heap.size w0 w6 := B3.grown g6 B3.size vlo
  have go : ∀ r, r < w1.heap.size → some r ≠ some mb → some r ≠ v.ownBlock → w6.heap[r]? = w1.heap[r]? := fun r a b c => (g6.block r (Nat.lt_of_lt_of_le a (Nat.le_trans g2.size A2.size)) c).trans ((A2.block r (Nat.lt_of_lt_of_le a g2.size)).trans (g2.block r a b))
  have nvk : some nv ≠ v.ownBlock := fun e => by obtain ⟨cur, x⟩ := vk nv e.symm; rw [hv] at x; cases x
  have mvk : some mv ≠ v.ownBlock := fun e => by obtain ⟨cur, x⟩ := vk mv e.symm; rw [h.cm] at x; cases x
  have mbk : some mb ≠ v.ownBlock := fun e => by obtain ⟨cur, x⟩ := vk mb e.symm; rw [hmb] at x; cases x
  have c6 : w6.heap[nv]? = some (.cells #[v] 34 (0, 0)) := (go nv lnv (fun e => h.n2 (Option.some.inj e)) nvk).trans hv
  have d6 : w6.heap[mv]? = some (.cells #[.map (some mb)] 51 (0, 0)) := (go mv lmv (fun e => h.n3 (Option.some.inj e)) mvk).trans h.cm
  have m6 := (m2.alloc (.cells #[.string s] 9)).kept g6 mbk
  have gs := grow_cell w6 ⟨nv, 0, none⟩ v6
  have K1 : Kp w1 w2 := Kp.grown g2 (fun q e c t _ x => by cases e; rw [hmb] at x; cases x)
  have K6 : Kp (w2.alloc (.cells #[.string s] 9)) w6 := Kp.grown g6 (fun q e c t ht x => by
    obtain ⟨cur, y⟩ := vk q e
    have lq := (Array.getElem?_eq_some_iff.1 y).1
    have : (w2.alloc (.cells #[.string s] 9)).heap[q]? = w1.heap[q]? := (A2.block q (Nat.lt_of_lt_of_le lq g2.size)).trans (g2.block q lq (fun z => by cases z; rw [hmb] at y; cases y))
    rw [this, y] at x
    cases x
    rcases ht with ht | ht <;> cases ht)
  refine ⟨c6, ⟨B6.setCell (p := ⟨nv, 0, none⟩) h.lo1 v6, h.lo1, h.lo2, h.lo3, h.n1, h.n2, h.n3, (gs.block mv (Array.getElem?_eq_some_iff.1 d6).1 (fun e => h.n1 (by cases e; rfl))).trans d6, ⟨v6, by rw [set_block c6]; rfl, ?_⟩, D.put (kl s) k, ?_, hi.put _ _, fun u => ?_⟩, (K1.trans (Kp.of_below A2)).trans (K6.trans (Kp.set c6 (by decide) (by decide) 0 v6))⟩
  · rw [List.length_append, List.map_append]
    refine o6.kept gs (.inr (fun e => ?_))
    obtain ⟨cur, x⟩ := own_kind o6 e
    rw [c6] at x; cases x
  · rw [List.length_append]
    exact m6.kept gs (fun e => h.n2 (by cases e; rfl))
  · by_cases z : u = s
    · subst z
      rw [has_put_same hi (show WideAt.IsKeyLit (kl u) by unfold kl; trivial)]
      exact ((isIn_iff _ _).2 (by simp)).symm
    · rw [has_put_other (fun e => z (kl_inj e)), hh]
      have : isIn u (l ++ [s]) = isIn u l := by
        have a := isIn_iff u (l ++ [s])
        have b := isIn_iff u l
        rw [List.mem_append, List.mem_singleton] at a
        cases p : isIn u l <;> cases q : isIn u (l ++ [s]) <;> simp_all
      rw [this]
theorem NmI.up {w0 w1 w2 : World} {nv mv mb : Nat} {l : List ByteArray} {v : Value} {D : DataW Unit} {n : Nat} (h : NmI w0 nv mv mb l w1) (hm : w1.ownsMap Tryd.prog 9 (plainElem Tryd.prog 3) mb n D) (hv : w1.heap[nv]? = some (.cells #[v] 34 (0, 0))) (g2 : w1.grownBy w2 (some mb)) : w2.heap[nv]? = some (.cells #[v] 34 (0, 0)) :=
  (g2.block nv (Array.getElem?_eq_some_iff.1 hv).1 (fun e => h.n2 (Option.some.inj e))).trans hv
theorem NmI.upx {w1 w2 : World} {mb b : Nat} {cs : Array Value} {t : TypeId} {D : DataW Unit} {n : Nat} (hm : w1.ownsMap Tryd.prog 9 (plainElem Tryd.prog 3) mb n D) (hv : w1.heap[b]? = some (.cells cs t (0, 0))) (g2 : w1.grownBy w2 (some mb)) : w2.heap[b]? = some (.cells cs t (0, 0)) := by
  obtain ⟨es, ck, hmb, _⟩ := hm
  exact (g2.block b (Array.getElem?_eq_some_iff.1 hv).1 (fun e => by cases e; rw [hmb] at hv; cases hv)).trans hv
theorem NmI.upr {w1 w2 : World} {mb B k : Nat} {v : Value} {xs : List Value} {D : DataW Unit} {n : Nat} (hm : w1.ownsMap Tryd.prog 9 (plainElem Tryd.prog 3) mb n D) (hr : w1.ownsRow B 9 1 v k xs) (g2 : w1.grownBy w2 (some mb)) : w2.ownsRow B 9 1 v k xs := by
  obtain ⟨es, ck, hmb, _⟩ := hm
  refine hr.kept g2 (.inr (fun e => ?_))
  obtain ⟨cur, x⟩ := own_kind hr e
  rw [hmb] at x; cases x
set_option maxRecDepth 8000 in
set_option maxHeartbeats 2000000 in
theorem nm_step (w0 : World) (nv mv mb : Nat) : StepOk nStep (NmI w0 nv mv mb) 35 #[.pointer (some ⟨mv, 0, none⟩), .pointer (some ⟨nv, 0, none⟩)] w0 (fun l => l.length) 2097152 := by
  intro l W p an nn nc aa ac d hh d1 d2 hI hlen
  show Calls Tryd.prog 35 #[.agg #[.int .u8 p.op, .string p.nm, .slice an nn nc, .slice aa p.k ac], .int .i64 d, .pointer (some ⟨mv, 0, none⟩), .pointer (some ⟨nv, 0, none⟩)] W _
  have hlen : l.length < 2097152 := hlen
  obtain ⟨bx, hbx⟩ : ∃ z, W.heap.size = z := ⟨_, rfl⟩
  obtain ⟨w1, hw1⟩ : ∃ z, W.alloc (.cells #[.int .u8 p.op, .string p.nm, .slice an nn nc, .slice aa p.k ac] 25) = z := ⟨_, rfl⟩
  have KA : Below W.heap.size W w1 := by rw [← hw1]; exact (Below.refl _ W).alloc (Nat.le_refl _) _
  have HX : Hid (w1.heap[bx]? = some (.cells #[.int .u8 p.op, .string p.nm, .slice an nn nc, .slice aa p.k ac] 25 (0, 0))) := Lib.hid (by rw [← hw1, ← hbx, al_new])
  have HI := Lib.hid (hI.keep KA)
  have KK := Lib.hid (Kp.of_below KA)
  have HKEY := Lib.hid (kl_key hh.nmle)
  obtain ⟨v, hv, hrow⟩ := HI.out.row
  obtain ⟨D, hmap, him, hhas⟩ := HI.out.mp
  have HV := Lib.hid hv
  have HRW := Lib.hid hrow
  have HM := Lib.hid hmap
  have HIM := Lib.hid him
  have HHS := Lib.hid hhas
  have HLN := Lib.hid hlen
  clear KA hI hh hv hrow hmap him
  have hk := hhas p.nm
  clear hhas
  have e0 := cell_blk HX.out 0
  have e1 := cell_blk HX.out 1
  have e2 := cell_blk HX.out 2
  have e3 := cell_blk HX.out 3
  have e4 := cell_blk HI.out.cm 0
  cases q : isIn p.nm l
  · rw [q] at hk
    by_cases z : p.nm = ⟨#[]⟩
    · obtain ⟨R, hR⟩ : ∃ R, nStep l p d = R := ⟨_, rfl⟩
      obtain rfl : R = (l, true) := by rw [← hR]; unfold nStep; rw [if_pos (.inr z)]
      rw [hR]
      have z1 : p.nm.toList = [] := by rw [z]; kernel_rfl
      clear hR z q
      go_enter Tryd.func35, Tryd.ntmps35
      go_wp2_with (at_lookup; refine wpList_lookup_own_ok_int _ rfl _ _ 51 rfl 9 3 .i64 klaw Tryd.underlying51 Tryd.underlying3 (zero3 _) mb l.length D rfl HM.out _ (kl p.nm) rfl HKEY.out ?_; intro c hat hwc)
      go_returns
      exact ⟨rfl, HI, KK⟩
    · have z1 : ¬ p.nm.toList = [] := fun e => z ((nm_empty _).1 (by rw [e]; rfl))
      obtain ⟨R, hR⟩ : ∃ R, nStep l p d = R := ⟨_, rfl⟩
      obtain rfl : R = (l ++ [p.nm], true) := by rw [← hR]; unfold nStep; rw [if_neg (by rintro (h | h); exact absurd (q.symm.trans h) (by decide); exact z h)]
      rw [hR]
      have HQ := Lib.hid q
      clear hR z q
      go_enter Tryd.func35, Tryd.ntmps35
      have l0 : (0 : Int) ≤ (l.length : Int) := by omega
      have l1 : (l.length : Int) ≤ 2097152 := by omega
      obtain ⟨ao, c9, rfl⟩ := row_shape HRW.out
      have n0 := cell_blk HV.out 0
      have HFL : True := trivial
      go_wp2_with (first
        | (at_lookup; go_loud (refine wpList_lookup_own_ok_int _ rfl _ _ 51 rfl 9 3 .i64 klaw Tryd.underlying51 Tryd.underlying3 (zero3 _) mb l.length D rfl HM.out _ (kl p.nm) rfl HKEY.out ?_); intro c hat hwc)
        | (at_mapUpdate; go_loud (refine wpList_mapUpdate_own _ rfl _ _ _ 51 rfl 9 3 klaw Tryd.underlying51 _ mb l.length D rfl HM.out (by unfold maxLen; have := HLN.out; omega) _ _ (kl p.nm) rfl rfl HKEY.out _ [] (plainElem_int Tryd.underlying3 (WalkArith.wf_i64 (by omega))) ?_); intro w2 HM2 HG2; have HM2 := Lib.hid HM2; have HG2 := Lib.hid HG2; clear n0 e0 e1 e2 e3 e4; have HV2 := NmI.up HI.out HM.out HV.out HG2.out; have HX2 := NmI.upx HM.out HX.out HG2.out; have n0 := cell_blk HV2 0; have e1 := cell_blk HX2 1; have HR2 := Lib.hid (NmI.upr HM.out HRW.out HG2.out); clear HV2 HX2)
        | (at_builtin; go_loud (refine appS rfl _ _ rfl w0.heap.size _ (.slice ao l.length c9) l.length (l.map Value.string) rfl ((HR2.out).alloc _) w2.heap.size 1 #[.string p.nm] rfl (al_new w2 _) rfl (by simp [Value.oneCell']) (by have := HLN.out; omega) (by have := HI.out.bw.size; have := HG2.out.size; simp; omega) ?_); intro v6 w6 HO6 HG6; obtain ⟨a6, c6, rfl⟩ := row_shape HO6; have hfin := NmI.app HI.out HV.out HRW.out HM.out HIM.out HHS.out HG2.out HM2.out HO6 HG6; have gn := cell_blk hfin.1 0; have gz := blk_free hfin.1 0; have HFIN := Lib.hid hfin.2; clear hfin HO6 HG6))
      · go_returns
        exact ⟨rfl, Lib.hid HFIN.out.1, Lib.hid (KK.out.trans HFIN.out.2)⟩
      · rename_i h
        exfalso
        rw [Bool.not_eq_false'] at h
        exact z1 (List.isEmpty_iff.1 h)
  · rw [q] at hk
    obtain ⟨R, hR⟩ : ∃ R, nStep l p d = R := ⟨_, rfl⟩
    obtain rfl : R = (l, true) := by rw [← hR]; unfold nStep; rw [if_pos (.inl q)]
    rw [hR]
    clear hR q
    go_enter Tryd.func35, Tryd.ntmps35
    go_wp2_with (at_lookup; refine wpList_lookup_own_ok_int _ rfl _ _ 51 rfl 9 3 .i64 klaw Tryd.underlying51 Tryd.underlying3 (zero3 _) mb l.length D rfl HM.out _ (kl p.nm) rfl HKEY.out ?_; intro c hat hwc)
    go_returns
    exact ⟨rfl, HI, KK⟩
theorem enters35 : ∀ (args : Array Value) (w : World), (callFunc 35 args).run Tryd.prog w = .ok (.enter 35 args) w := enters_of Tryd.func35 (by kernel_rfl) rfl
/-- The names of parts, each once. -/
noncomputable def nmsOf (l : List (Pt × Int)) : List ByteArray := (run nStep [] l).1
set_option maxRecDepth 8000 in
set_option maxHeartbeats 2000000 in
theorem names_any (n : Nat) (v : Value) (F : Tour) (w : World) (hF : ExAt w n v F) (hn : n ≤ 4611686018427387000) (hl : (F 1).length ≤ 2097152) :
    Calls Tryd.prog 21 #[v] w fun e w' => ∃ v', e = .returned v' ∧ Hid (w'.ownsRow w.heap.size 9 1 v' (nmsOf (F 1)).length ((nmsOf (F 1)).map Value.string)) ∧ Hid (Below w.heap.size w w') := by
  obtain ⟨nv, hnv⟩ : ∃ z, w.heap.size + 1 = z := ⟨_, rfl⟩
  have HV := Lib.hid (fun s W h0 h => visit_any nStep (NmI w nv (nv + 2) (nv + 1)) 35 #[.pointer (some ⟨nv + 2, 0, none⟩), .pointer (some ⟨nv, 0, none⟩)] w (fun s W h => h.bw) (fun s W W' h q => h.keep q) (fun l => l.length) 2097152 nStep_len (nm_step w nv (nv + 2) (nv + 1)) enters35 n v F hF hn s W h0 h)
  have HLL := Lib.hid hl
  obtain ⟨p, an, nn, nc, aa, ac, rfl, _⟩ := hF.head
  obtain ⟨R, hR⟩ : ∃ R, nmsOf (F 1) = R := ⟨_, rfl⟩
  rw [hR]
  have HRN : Hid ((run nStep [] (F 1)).1 = R) := Lib.hid hR
  obtain ⟨bx, hbx⟩ : ∃ z, w.heap.size = z := ⟨_, rfl⟩
  clear hF hR hl
  have hmm := @run_makeMap Tryd.prog
  go_enter Tryd.func21, Tryd.ntmps21
  go_upto_region 3 with fail
  obtain ⟨w1, hw1⟩ : ∃ z, (((w.alloc (.cells #[.int .u8 p.op, .string p.nm, .slice an nn nc, .slice aa p.k ac] 25)).alloc (.cells #[.slice none 0 0] 34)).alloc (.map #[] 0)).alloc (.cells #[.map (some (bx + 1 + 1))] 51) = z := ⟨_, rfl⟩
  have KA : Below w.heap.size w w1 := by rw [← hw1]; exact ((((Below.refl _ w).alloc (Nat.le_refl _) _).alloc (by simp) _).alloc (by simp; omega) _).alloc (by simp; omega) _
  have X1 : Hid (w1.heap[bx]? = some (.cells #[.int .u8 p.op, .string p.nm, .slice an nn nc, .slice aa p.k ac] 25 (0, 0))) := Lib.hid (by rw [← hw1, al_old _ _ (by simp; omega), al_old _ _ (by simp; omega), al_old _ _ (by simp; omega), ← hbx, al_new])
  have hn2 : nv = bx + 1 := by omega
  subst hn2
  have HI : Hid (NmI w (bx + 1) (bx + 1 + 2) (bx + 1 + 1) [] w1) := Lib.hid (by
    refine ⟨KA, by omega, by omega, by omega, by omega, by omega, by omega, ?_, ⟨.slice none 0 0, ?_, World.ownsRow_nil _ _ _ _⟩, .map [], ?_, isMap_empty, fun s => ?_⟩
    · rw [← hw1, show bx + 1 + 2 = (((w.alloc (.cells #[.int .u8 p.op, .string p.nm, .slice an nn nc, .slice aa p.k ac] 25)).alloc (.cells #[.slice none 0 0] 34)).alloc (.map #[] 0)).heap.size by simp; omega, al_new]
    · rw [← hw1, al_old _ _ (by simp; omega), al_old _ _ (by simp; omega), show bx + 1 = (w.alloc (.cells #[.int .u8 p.op, .string p.nm, .slice an nn nc, .slice aa p.k ac] 25)).heap.size by simp; omega, al_new]
    · rw [← hw1, show bx + 1 + 1 = ((w.alloc (.cells #[.int .u8 p.op, .string p.nm, .slice an nn nc, .slice aa p.k ac] 25)).alloc (.cells #[.slice none 0 0] 34)).heap.size by simp; omega]
      exact (World.ownsMap_made _ _ _ _).alloc _
    · cases q : isIn s []
      · rfl
      · exact absurd ((isIn_iff _ _).1 q) (by simp))
  have HC := Lib.hid (HV.out [] w1 (by have := HLL.out; simpa using this) HI.out)
  rw [HRN.out] at HC
  clear HV HRN HI KA hmm HLL
  rw [hw1]
  have e0 := cell_blk X1.out 0
  have e1 := cell_blk X1.out 1
  have e2 := cell_blk X1.out 2
  have e3 := cell_blk X1.out 3
  clear hw1 hbx
  go_wp2_with fail
  (with_reducible refine HC.out.mono ?_)
  rintro e w3 ⟨rfl, HI, K3⟩
  obtain ⟨v, hv, hr⟩ := HI.out.row
  have HR := Lib.hid hr
  have HB := Lib.hid HI.out.bw
  have n0 := cell_blk hv 0
  clear HC K3 e0 e1 e2 e3 HI hv hr
  go_wp2
  go_returns
  exact ⟨v, rfl, HR, HB⟩
end Go.Proofs.YtgealkflfmeicaaDoor
