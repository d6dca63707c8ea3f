/- BasisTells: the walk. -/
import Derived.Test.YtacpcokmgahjaaaDoorT6
namespace Go.Proofs.YtacpcokmgahjaaaDoor
set_option linter.unusedVariables false
set_option linter.unusedSimpArgs false
open Go.ChangeShapes Go.WideShapes Go.ChangeAt Go.RowKit
theorem info9 : (Tryd.prog.info? 9).map (fun i => (i.zero, i.size, i.bytes)) = some (some (.string ⟨#[]⟩), 1, 16) := by kernel_rfl
theorem appS {ops : Array Oper} {rest : List Oper} {o : Oper} {a : Act} {Q : Exit → Act → World → Prop} (hgd : o.guard = none) (s x : Operand)
    (ho : o.op = .call { callee := .builtin .append, args := #[s, x], argTypes := #[24, 24] }) (base : Nat) (w : World) (v : Value) (n : Nat) (xs : List Value) (hs : a.eval s = v) (hown : w.ownsRow base 9 1 v n xs) (b m : Nat) (cs : Array Value) (hx : a.eval x = .slice (some ⟨b, 0, none⟩) m m) (hb : w.heap[b]? = some (.cells cs 9 (0, 0))) (hl : cs.toList.length = m) (h1 : ∀ u ∈ cs.toList, u.oneCell' = true) (hn : n + m ≤ 100) (hbase : base ≤ w.heap.size)
    (h : ∀ v' w', w'.ownsRow base 9 1 v' (n + m) (xs ++ cs.toList) → w.grownBy w' v.ownBlock → wpList Tryd.prog ops Q rest (a.put o.dst v') w') : wpList Tryd.prog ops Q (o :: rest) a w := by
  obtain ⟨k0, hk, hkz0, hkz1, hkz2⟩ := info_parts info9
  exact wpList_append_own_at _ hgd s x 24 ho base 9 k0 (.string ⟨#[]⟩) 1 16 Tryd.underlying24 hk hkz0 hkz1 hkz2 rfl (by decide) v n xs hs hown ⟨b, 0, none⟩ m m cs.toList hx (by rw [hl, Nat.mul_one]) (fun j u hj => by
      rw [show (Addr.add ⟨b, 0, none⟩ j) = ⟨b, j, none⟩ by simp only [Addr.add, Nat.zero_add]; split <;> simp_all, cell_blk hb j]
      simpa using hj) h1 (by unfold maxLen; omega) (by omega) hbase (fun v' w' a b _ _ => h v' w' a b)
theorem row_str {w : World} {base n : Nat} {v : Value} {xs : List Value} (h : w.ownsRow base 9 1 v n xs) (hn : 0 < n) : ∃ r cap cur, v = .slice (some ⟨r, 0, none⟩) n cap ∧ base ≤ r ∧ w.heap[r]? = some (.cells cur 9 (0, 0)) ∧ ∀ i, i < n → cur[i]? = xs[i]? := by
  rcases h.2 with ⟨_, rfl⟩ | ⟨g, cap, cur, hv, hb, hg, h1, h2, h3, h4⟩
  · exact absurd hn (Nat.lt_irrefl _)
  · refine ⟨g, cap, cur, hv, hb, hg, fun i hi => ?_⟩
    rw [← h4, List.getElem?_take_of_lt (by omega)]
    simp
/-- The lists of names, and the calendar, through the loop. -/
structure Tl (w0 w : World) (c k g j lb r : Nat) (cur : Array Value) : Prop where
  bw : Below w0.heap.size w0 w
  ask : Asked w c k g j
  l : w.heap[lb]? = some (.cells #[.string ⟨#[116, 105, 99, 107]⟩, .string ⟨#[100, 97, 121]⟩, .string ⟨#[119, 101, 101, 107]⟩, .string ⟨#[109, 111, 110, 116, 104]⟩, .string ⟨#[113, 117, 97, 114, 116, 101, 114]⟩, .string ⟨#[121, 101, 97, 114]⟩] 9 (0, 0))
  row : w.heap[r]? = some (.cells cur 9 (0, 0))
  n1 : lb ≠ k
  n2 : lb ≠ g
  n3 : r ≠ k
  n4 : r ≠ g
  b1 : w0.heap.size ≤ k
  b2 : w0.heap.size ≤ g
theorem Tl.keep {w0 w w' : World} {c k g j lb r : Nat} {cur : Array Value} (h : Tl w0 w c k g j lb r cur) (q : Below w.heap.size w w') : Tl w0 w' c k g j lb r cur :=
  ⟨h.bw.trans (q.mono h.bw.size), h.ask.keep q, (q.block lb (Array.getElem?_eq_some_iff.1 h.l).1).trans h.l, (q.block r (Array.getElem?_eq_some_iff.1 h.row).1).trans h.row, h.n1, h.n2, h.n3, h.n4, h.b1, h.b2⟩
theorem Tl.form {w0 w w' : World} {c k g j i lb r : Nat} {cur : Array Value} (h : Tl w0 w c k g j lb r cur) (ha : Asked w' c k g i) (q : But2 k g w w') : Tl w0 w' c k g i lb r cur :=
  ⟨h.bw.trans (q.below h.b1 h.b2 h.bw.size), ha, (q.old lb (Array.getElem?_eq_some_iff.1 h.l).1 h.n1 h.n2).trans h.l, (q.old r (Array.getElem?_eq_some_iff.1 h.row).1 h.n3 h.n4).trans h.row, h.n1, h.n2, h.n3, h.n4, h.b1, h.b2⟩
theorem Asked.lt {w : World} {c k g j : Nat} (h : Asked w c k g j) : k < w.heap.size ∧ g < w.heap.size := by
  obtain ⟨_, _, m, st, hC, _⟩ := h
  obtain ⟨cu, hcu, _⟩ := hC.gb
  exact ⟨(Array.getElem?_eq_some_iff.1 hC.kb).1, (Array.getElem?_eq_some_iff.1 hcu).1⟩
set_option maxRecDepth 8000 in
set_option maxHeartbeats 4000000 in
theorem basisTells_walk (s : ByteArray) (w : World) (hT : Tab w) :
    Calls Tryd.prog 3 #[.string s] w fun e w' => e = .returned (.bool true) ∧ Below w.heap.size w w' := by
  have HT := Lib.hid hT
  clear hT
  go_enter Tryd.func3, Tryd.ntmps3
  go_wp2_with fail
  (with_reducible refine (new_any w).mono ?_)
  rintro e w1 ⟨c, k, g, rfl, HC, HL, HB⟩
  have HA : Hid (Asked w1 c k g 0) := Lib.hid ⟨by have := HL.out; omega, by omega, _, _, HC.out, fun q hq => by simp⟩
  clear HC
  go_wp2_with fail
  (with_reducible refine (names_any w1).mono ?_)
  rintro e w2 ⟨rfl, hw2⟩
  obtain ⟨lb, hlb⟩ : ∃ z, w1.heap.size = z := ⟨_, rfl⟩
  have KA : Hid (Below w1.heap.size w1 w2) := Lib.hid (by rw [hw2]; exact (Below.refl _ w1).alloc (Nat.le_refl _) _)
  have HLB : Hid (w2.heap[lb]? = some (.cells #[.string ⟨#[116, 105, 99, 107]⟩, .string ⟨#[100, 97, 121]⟩, .string ⟨#[119, 101, 101, 107]⟩, .string ⟨#[109, 111, 110, 116, 104]⟩, .string ⟨#[113, 117, 97, 114, 116, 101, 114]⟩, .string ⟨#[121, 101, 97, 114]⟩] 9 (0, 0)) ∧ lb = w1.heap.size) := Lib.hid ⟨by rw [hw2, ← hlb]; exact al_new w1 _, hlb.symm⟩
  rw [hlb]
  clear hw2 hlb
  go_wp2_with fail
  (with_reducible refine (rnames_any w2).mono ?_)
  rintro e w3 ⟨rfl, hw3⟩
  obtain ⟨mb, hmb⟩ : ∃ z, w2.heap.size = z := ⟨_, rfl⟩
  have KB : Hid (Below w2.heap.size w2 w3) := Lib.hid (by rw [hw3]; exact (Below.refl _ w2).alloc (Nat.le_refl _) _)
  have HMB : Hid (w3.heap[mb]? = some (.cells #[.string ⟨#[116, 105, 99, 107]⟩, .string ⟨#[100, 97, 121]⟩, .string ⟨#[119, 101, 101, 107]⟩, .string ⟨#[109, 111, 110, 116, 104]⟩, .string ⟨#[113, 117, 97, 114, 116, 101, 114]⟩, .string ⟨#[121, 101, 97, 114]⟩] 9 (0, 0)) ∧ mb = w2.heap.size) := Lib.hid ⟨by rw [hw3, ← hmb]; exact al_new w2 _, hmb.symm⟩
  rw [hmb]
  clear hw3 hmb
  go_upto_region 5 with fail
  obtain ⟨eb, heb⟩ : ∃ z, w3.heap.size = z := ⟨_, rfl⟩
  obtain ⟨w4, hw4⟩ : ∃ z, w3.alloc (.cells #[] 9) = z := ⟨_, rfl⟩
  have KC : Hid (Below w3.heap.size w3 w4) := Lib.hid (by rw [← hw4]; exact (Below.refl _ w3).alloc (Nat.le_refl _) _)
  have HEO : Hid (w4.ownsRow w3.heap.size 9 1 (.slice (some ⟨eb, 0, none⟩) 0 0) 0 []) := Lib.hid ⟨rfl, .inr ⟨eb, 0, #[], rfl, by omega, by rw [← hw4, ← heb, al_new], Nat.le_refl _, Nat.zero_le _, rfl, rfl⟩⟩
  have HMB4 := Lib.hid ((KC.out.block mb (Array.getElem?_eq_some_iff.1 HMB.out.1).1).trans HMB.out.1)
  have HFL : True := trivial
  go_wp2_with (at_builtin; first
    | (clear HFL; go_loud (refine appS rfl _ _ rfl w3.heap.size w4 (.slice (some ⟨eb, 0, none⟩) 0 0) 0 [] rfl HEO.out mb 6 #[.string ⟨#[116, 105, 99, 107]⟩, .string ⟨#[100, 97, 121]⟩, .string ⟨#[119, 101, 101, 107]⟩, .string ⟨#[109, 111, 110, 116, 104]⟩, .string ⟨#[113, 117, 97, 114, 116, 101, 114]⟩, .string ⟨#[121, 101, 97, 114]⟩] rfl HMB4.out rfl (by decide) (by decide) KC.out.size ?_); intro v5 w5 HO5 HG5; have HO5 := Lib.hid HO5; have HG5 := Lib.hid HG5; clear hw4 heb)
    | (go_loud (refine appS rfl _ _ rfl w3.heap.size _ v5 6 [.string ⟨#[116, 105, 99, 107]⟩, .string ⟨#[100, 97, 121]⟩, .string ⟨#[119, 101, 101, 107]⟩, .string ⟨#[109, 111, 110, 116, 104]⟩, .string ⟨#[113, 117, 97, 114, 116, 101, 114]⟩, .string ⟨#[121, 101, 97, 114]⟩] rfl ((HO5.out).alloc _) w5.heap.size 1 #[.string s] rfl (al_new w5 _) rfl (by simp [Value.oneCell']) (by decide) (by have := HG5.out.size; have := KC.out.size; simp; omega) ?_); intro v6 w6 HO6 HG6; obtain ⟨r, cap, cur, rfl, hr1, hr2, hr3⟩ := row_str HO6 (by decide); have HR := Lib.hid (And.intro hr1 (And.intro hr2 hr3)); clear hr1 hr2 hr3 HO6; have HG6 := Lib.hid HG6))
  have HTL : Hid (Tl w w6 c k g 0 lb r cur) := Lib.hid (by
    have hL := HL.out
    have lt := HA.out.lt
    have B3 : Below w1.heap.size w1 w3 := KA.out.trans (KB.out.mono KA.out.size)
    have B4 : Below w1.heap.size w1 w4 := B3.trans (KC.out.mono B3.size)
    have B5 : Below w1.heap.size w1 w5 := B4.grown HG5.out B4.size (fun q e => Nat.le_trans B3.size (HEO.out.lt q e).1)
    have B5' : Below w1.heap.size w1 (w5.alloc (.cells #[.string s] 9)) := B5.alloc B5.size _
    have B6 : Below w1.heap.size w1 w6 := B5'.grown HG6.out B5'.size (fun q e => Nat.le_trans B3.size (HO5.out.lt q e).1)
    have C4 : Below w3.heap.size w3 w4 := KC.out
    have C5 : Below w3.heap.size w3 w5 := C4.grown HG5.out C4.size (fun q e => (HEO.out.lt q e).1)
    have C5' : Below w3.heap.size w3 (w5.alloc (.cells #[.string s] 9)) := C5.alloc C5.size _
    have C6 : Below w3.heap.size w3 w6 := C5'.grown HG6.out C5'.size (fun q e => (HO5.out.lt q e).1)
    have l3 := (KB.out.block lb (Array.getElem?_eq_some_iff.1 HLB.out.1).1).trans HLB.out.1
    have e1 := HLB.out.2
    have e2 := HR.out.1
    have e3 := B3.size
    exact ⟨HB.out.trans (B6.mono HB.out.size), HA.out.keep B6, (C6.block lb (Array.getElem?_eq_some_iff.1 l3).1).trans l3, HR.out.2.1, by omega, by omega, by omega, by omega, by omega, by omega⟩)
  have HCU : Hid ((∀ i, i < 6 → cur[i]? = some (.string (nm i))) ∧ cur[6]? = some (.string s)) := Lib.hid (by
    have h := HR.out.2.2
    refine ⟨fun i hi => ?_, h 6 (by decide)⟩
    rw [h i (by omega)]
    match i, hi with
    | 0, _ => rfl
    | 1, _ => rfl
    | 2, _ => rfl
    | 3, _ => rfl
    | 4, _ => rfl
    | 5, _ => rfl)
  clear HR HO5 HG5 HG6 HEO HMB4 HMB HLB KA KB KC HL HB HA
  go_loopw [6, 7, 8, 9, 10, 11, 27] (fun s6 s7 s8 s9 s10 s11 ii wr => ∃ j : Nat, j ≤ 7 ∧ ii = .int .i64 j ∧ Hid (Tl w wr c k g (min j 6) lb r cur)) (fun s6 s7 s8 s9 s10 s11 ii _ => 7 - (intOf ii).toNat)
  case atStart => exact ⟨0, Nat.zero_le _, rfl, HTL⟩
  case round =>
    clear HTL
    obtain ⟨j, hj, rfl, HTL⟩ := hrel
    have i0 : (0 : Int) ≤ (j : Int) := by omega
    by_cases j6 : j < 6
    · have i1 : (j : Int) < 6 := by omega
      have e0 : wr.cell? ⟨r, j, none⟩ = some (.string (nm j)) := by rw [cell_blk HTL.out.row]; exact HCU.out.1 j j6
      have e1 : wr.cell? ⟨lb, j, none⟩ = some (.string (nm j)) := by rw [names_cell HTL.out.l j6]
      have HSJ : Hid (∀ S, nm j = S → min j 6 < 6 → S = nm (min j 6)) := Lib.hid (fun S h _ => by rw [← h, Nat.min_eq_left (by omega)])
      have HMN : Hid (nxt6 (min j 6) = min (j + 1) 6) := Lib.hid (by unfold nxt6; split <;> omega)
      obtain ⟨S, hS⟩ : ∃ z, nm j = z := ⟨_, rfl⟩
      have HSJ := Lib.hid (HSJ.out S hS)
      rw [hS] at e0 e1
      clear hS
      obtain ⟨P, n, cs, x, hA⟩ := ans_all S
      have HAN := Lib.hid hA
      have HF := Lib.hid (ask_any hA wr c k g (min j 6) (HT.out.keep HTL.out.bw) HTL.out.ask HSJ.out)
      rw [HMN.out] at HF
      clear hA
      go_upto_region 10 with fail
      go_wp2_with fail
      (with_reducible refine HF.out.mono ?_)
      rintro e w7 ⟨co, cc, oo, oc, rfl, HC1, HAS, HU⟩
      have HTL := Lib.hid (HTL.out.form HAS.out HU.out)
      clear HF HAS HU e0
      go_upto_region 11 with fail
      obtain ⟨b1, hb1⟩ : ∃ z, w7.heap.size = z := ⟨_, rfl⟩
      obtain ⟨w8, hw8⟩ : ∃ z, w7.alloc (.cells #[.int .i64 P, .int .i64 (n : Int), .slice co n cc, .slice oo 0 oc] 29) = z := ⟨_, rfl⟩
      have KA : Below w7.heap.size w7 w8 := by rw [← hw8]; exact (Below.refl _ w7).alloc (Nat.le_refl _) _
      have HX1 : Hid (w8.heap[b1]? = some (.cells #[.int .i64 P, .int .i64 (n : Int), .slice co n cc, .slice oo 0 oc] 29 (0, 0))) := Lib.hid (by rw [← hw8, ← hb1]; exact al_new w7 _)
      have HC1 := Lib.hid (HC1.out.keep KA)
      have HTL := Lib.hid (HTL.out.keep KA)
      rw [hw8, hb1]
      clear hw8 hb1 KA
      have HRF := Lib.hid (ref_any HAN.out w8)
      go_wp2_with fail
      (with_reducible refine HRF.out.mono ?_)
      rintro e w9 ⟨co2, cc2, oo2, oc2, rfl, HC2, KB⟩
      have HC1 := Lib.hid (HC1.out.keep KB.out)
      have HTL := Lib.hid (HTL.out.keep KB.out)
      have HX1 := Lib.hid ((KB.out.block b1 (Array.getElem?_eq_some_iff.1 HX1.out).1).trans HX1.out)
      clear HRF KB
      go_upto_region 12 with fail
      obtain ⟨b2, hb2⟩ : ∃ z, w9.heap.size = z := ⟨_, rfl⟩
      obtain ⟨w10, hw10⟩ : ∃ z, w9.alloc (.cells #[.int .i64 P, .int .i64 (n : Int), .slice co2 n cc2, .slice oo2 0 oc2] 29) = z := ⟨_, rfl⟩
      have KA : Below w9.heap.size w9 w10 := by rw [← hw10]; exact (Below.refl _ w9).alloc (Nat.le_refl _) _
      have HX2 : Hid (w10.heap[b2]? = some (.cells #[.int .i64 P, .int .i64 (n : Int), .slice co2 n cc2, .slice oo2 0 oc2] 29 (0, 0))) := Lib.hid (by rw [← hw10, ← hb2]; exact al_new w9 _)
      have HX1 := Lib.hid ((KA.block b1 (Array.getElem?_eq_some_iff.1 HX1.out).1).trans HX1.out)
      have HC1 := Lib.hid (HC1.out.keep KA)
      have HC2 := Lib.hid (HC2.out.keep KA)
      have HTL := Lib.hid (HTL.out.keep KA)
      rw [hw10, hb2]
      clear hw10 hb2 KA
      have HSM := Lib.hid (rsame_same P n co cc oo oc co2 cc2 oo2 oc2 cs w10 HAN.out.small.1 HAN.out.small.2 HC1.out HC2.out)
      have x0 := cell_blk HX1.out 0
      have x1 := cell_blk HX1.out 1
      have x2 := cell_blk HX1.out 2
      have x3 := cell_blk HX1.out 3
      have y0 := cell_blk HX2.out 0
      have y1 := cell_blk HX2.out 1
      have y2 := cell_blk HX2.out 2
      have y3 := cell_blk HX2.out 3
      go_wp2_with fail
      (with_reducible refine HSM.out.mono ?_)
      rintro e w11 ⟨rfl, q⟩
      have HTL := Lib.hid (HTL.out.keep q)
      clear HSM q x0 x1 x2 x3 y0 y1 y2 y3
      go_wp2
      go_roundw
      case rel => exact ⟨j + 1, by omega, by go_num, HTL⟩
      case measure => simp [intOf]; omega
    · by_cases j7 : j < 7
      · have i1 : (6 : Int) ≤ (j : Int) := by omega
        have i2 : (j : Int) < 7 := by omega
        have e0 : wr.cell? ⟨r, j, none⟩ = some (.string s) := by rw [cell_blk HTL.out.row, show j = 6 by omega]; exact HCU.out.2
        have HMN : Hid (nxt6 (min j 6) = min (j + 1) 6) := Lib.hid (by unfold nxt6; split <;> omega)
        obtain ⟨S, hS⟩ : ∃ z, s = z := ⟨_, rfl⟩
        have HSJ : Hid (min j 6 < 6 → S = nm (min j 6)) := Lib.hid (fun h => by omega)
        rw [hS] at e0
        clear hS
        obtain ⟨P, n, cs, x, hA⟩ := ans_all S
        have HAN := Lib.hid hA
        have HF := Lib.hid (ask_any hA wr c k g (min j 6) (HT.out.keep HTL.out.bw) HTL.out.ask HSJ.out)
        rw [HMN.out] at HF
        clear hA
        go_upto_region 10 with fail
        go_wp2_with fail
        (with_reducible refine HF.out.mono ?_)
        rintro e w7 ⟨co, cc, oo, oc, rfl, HC1, HAS, HU⟩
        have HTL := Lib.hid (HTL.out.form HAS.out HU.out)
        clear HF HAS HU e0
        go_upto_region 11 with fail
        obtain ⟨b1, hb1⟩ : ∃ z, w7.heap.size = z := ⟨_, rfl⟩
        obtain ⟨w8, hw8⟩ : ∃ z, w7.alloc (.cells #[.int .i64 P, .int .i64 (n : Int), .slice co n cc, .slice oo 0 oc] 29) = z := ⟨_, rfl⟩
        have KA : Below w7.heap.size w7 w8 := by rw [← hw8]; exact (Below.refl _ w7).alloc (Nat.le_refl _) _
        have HX1 : Hid (w8.heap[b1]? = some (.cells #[.int .i64 P, .int .i64 (n : Int), .slice co n cc, .slice oo 0 oc] 29 (0, 0))) := Lib.hid (by rw [← hw8, ← hb1]; exact al_new w7 _)
        have HC1 := Lib.hid (HC1.out.keep KA)
        have HTL := Lib.hid (HTL.out.keep KA)
        rw [hw8, hb1]
        clear hw8 hb1 KA
        have HRF := Lib.hid (ref_any HAN.out w8)
        go_wp2_with fail
        (with_reducible refine HRF.out.mono ?_)
        rintro e w9 ⟨co2, cc2, oo2, oc2, rfl, HC2, KB⟩
        have HC1 := Lib.hid (HC1.out.keep KB.out)
        have HTL := Lib.hid (HTL.out.keep KB.out)
        have HX1 := Lib.hid ((KB.out.block b1 (Array.getElem?_eq_some_iff.1 HX1.out).1).trans HX1.out)
        clear HRF KB
        go_upto_region 12 with fail
        obtain ⟨b2, hb2⟩ : ∃ z, w9.heap.size = z := ⟨_, rfl⟩
        obtain ⟨w10, hw10⟩ : ∃ z, w9.alloc (.cells #[.int .i64 P, .int .i64 (n : Int), .slice co2 n cc2, .slice oo2 0 oc2] 29) = z := ⟨_, rfl⟩
        have KA : Below w9.heap.size w9 w10 := by rw [← hw10]; exact (Below.refl _ w9).alloc (Nat.le_refl _) _
        have HX2 : Hid (w10.heap[b2]? = some (.cells #[.int .i64 P, .int .i64 (n : Int), .slice co2 n cc2, .slice oo2 0 oc2] 29 (0, 0))) := Lib.hid (by rw [← hw10, ← hb2]; exact al_new w9 _)
        have HX1 := Lib.hid ((KA.block b1 (Array.getElem?_eq_some_iff.1 HX1.out).1).trans HX1.out)
        have HC1 := Lib.hid (HC1.out.keep KA)
        have HC2 := Lib.hid (HC2.out.keep KA)
        have HTL := Lib.hid (HTL.out.keep KA)
        rw [hw10, hb2]
        clear hw10 hb2 KA
        have HSM := Lib.hid (rsame_same P n co cc oo oc co2 cc2 oo2 oc2 cs w10 HAN.out.small.1 HAN.out.small.2 HC1.out HC2.out)
        have x0 := cell_blk HX1.out 0
        have x1 := cell_blk HX1.out 1
        have x2 := cell_blk HX1.out 2
        have x3 := cell_blk HX1.out 3
        have y0 := cell_blk HX2.out 0
        have y1 := cell_blk HX2.out 1
        have y2 := cell_blk HX2.out 2
        have y3 := cell_blk HX2.out 3
        go_wp2_with fail
        (with_reducible refine HSM.out.mono ?_)
        rintro e w11 ⟨rfl, q⟩
        have HTL := Lib.hid (HTL.out.keep q)
        clear HSM q x0 x1 x2 x3 y0 y1 y2 y3
        go_wp2
        go_roundw
        case rel => exact ⟨j + 1, by omega, by go_num, HTL⟩
        case measure => simp [intOf]; omega
      · obtain rfl : j = 7 := by omega
        have HM : Hid (Calls Tryd.prog 14 #[.pointer (some ⟨c, 0, none⟩)] wr fun e w' => e = .returned (.int .i64 6) ∧ wr = w') := Lib.hid (by
          obtain ⟨_, _, m, st, hC, _⟩ := HTL.out.ask
          exact made_yes wr m c k g st 6 hC (by decide) (by decide))
        have HW := Lib.hid (awake_any wr (HT.out.keep HTL.out.bw))
        go_wp2_with fail
        (with_reducible refine HM.out.mono ?_)
        rintro e w7 ⟨rfl, rfl⟩
        go_wp2_with fail
        (with_reducible refine HW.out.mono ?_)
        rintro e w8 ⟨rfl, q⟩
        have HF := Lib.hid (HTL.out.bw.trans (q.mono HTL.out.bw.size))
        clear q
        go_wp2
        go_returns
        exact ⟨rfl, HF.out⟩
end Go.Proofs.YtacpcokmgahjaaaDoor
