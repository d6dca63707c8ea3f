/- X10 in one. -/
import Derived.Test.YtimjendkpjojoaaGreatDoorKr
import Derived.Laws.RangeString
namespace Go.Proofs.YtimjendkpjojoaaGreatDoor
set_option linter.unusedVariables false
set_option linter.unusedSimpArgs false
open Go.ChangeShapes Go.WideShapes Go.ChangeAt Go.RowKit

theorem below_grown {B : Nat} {a w w' : World} {row : Option Nat} (h : Below B a w) (k : w.grownBy w' row) (hr : ∀ q, row = some q → B ≤ q) (hB : B ≤ w.heap.size) : Below B a w' :=
  ⟨k.os.trans h.os, k.tape.trans h.tape, k.output.trans h.output, Nat.le_trans h.size k.size, fun q hq => (k.block q (Nat.lt_of_lt_of_le hq hB) (fun e => by have := hr q e.symm; omega)).trans (h.block q hq)⟩
theorem ok_it {W W' : World} {b k : Nat} {s : ByteArray} {p : Nat} (h : Lib.OthersKept 5 (some b) W W') (hk : W.heap[k]? = some (.stringIter s p)) (hb : k ≠ b) : W'.heap[k]? = some (.stringIter s p) :=
  h k _ hk (fun e => hb (Option.some.inj e)) (fun c fz e => by cases e)
/-- What Command holds on its way. -/
structure CmW (w0 wr : World) (b bx ib : Nat) (cs : Array Value) (sh : ByteArray) (pos : Nat) (acc : List UInt8) : Prop where
  pr : PrS w0 wr b acc
  box : wr.heap[bx]? = some (.cells cs 42 (0, 0))
  it : wr.heap[ib]? = some (.stringIter sh pos)
  ne : w0.heap.size ≤ bx ∧ bx < b ∧ b < ib
theorem CmW.call {w0 wr w' : World} {b bx ib : Nat} {cs : Array Value} {sh : ByteArray} {pos : Nat} {acc acc' : List UInt8} (h : CmW w0 wr b bx ib cs sh pos acc) (p : PrS w0 w' b acc') (k : Lib.OthersKept 5 (some b) wr w') : CmW w0 w' b bx ib cs sh pos acc' :=
  ⟨p, ok_blk k h.box (by decide) (by have := h.ne; omega), ok_it k h.it (by have := h.ne; omega), h.ne⟩
theorem CmW.keep {w0 wr w' : World} {b bx ib : Nat} {cs : Array Value} {sh : ByteArray} {pos : Nat} {acc : List UInt8} (h : CmW w0 wr b bx ib cs sh pos acc) (k : Below wr.heap.size wr w') : CmW w0 w' b bx ib cs sh pos acc := h.call (h.pr.keep k) (ok_below k)
theorem PrS.iter {w0 W : World} {b k : Nat} {acc : List UInt8} {s : ByteArray} {p : Nat} (h : PrS w0 W b acc) (hk : W.heap[k]? = some (.stringIter s p)) (hb : b < k) (q : Nat) : PrS w0 (nx W k s q) b acc := by
  have hn : ∀ i, i ≠ k → (nx W k s q).heap[i]? = W.heap[i]? := fun i hi => by unfold nx; rw [Array.getElem?_setIfInBounds_ne (fun e => hi e.symm)]
  have hg := nx_grown W k s q
  refine ⟨below_grown h.bw hg (fun r e => by cases e; have := h.lo; omega) h.bw.size, h.lo, ?_⟩
  have go : ∀ {p : Value} {bs : List Value}, Lib.BuilderAtF 56 5 b b p bs W → Lib.BuilderAtF 56 5 b b p bs (nx W k s q) := by
    rintro p bs ⟨h1, v, hv, hown, hne⟩
    refine ⟨h1, v, (hn b (by omega)).trans hv, hown.kept hg ?_, hne⟩
    cases e : v.ownBlock with
    | none => exact .inl rfl
    | some g =>
      refine .inr (fun e2 => ?_)
      cases e2
      obtain ⟨c, fz, hc⟩ := Lib.ownsRowF_kind hown k e
      rw [hk] at hc
      cases hc
  exact h.ib.elim (fun x => .inl (go x)) (fun x => .inr (go x))
theorem CmW.turn {w0 wr : World} {b bx ib : Nat} {cs : Array Value} {sh : ByteArray} {pos : Nat} {acc : List UInt8} (h : CmW w0 wr b bx ib cs sh pos acc) (q : Nat) : CmW w0 (nx wr ib sh q) b bx ib cs sh q acc := by
  have hn := h.ne
  refine ⟨h.pr.iter h.it hn.2.2 q, ?_, nx_on h.it _ _, hn⟩
  unfold nx
  rw [Array.getElem?_setIfInBounds_ne (by omega)]
  exact h.box

theorem shape_word {w sh : List UInt8} (h : Lx.shape w = some sh) : w.length ≤ 10 := by
  have go : ∀ (L : List (List UInt8 × List UInt8)), Lx.shGo L w = some sh → ∃ p ∈ L, p.1 = w := by
    intro L
    induction L with
    | nil => intro h; cases h
    | cons p r ih =>
      intro h
      unfold Lx.shGo at h
      split at h
      · rename_i e; exact ⟨p, List.mem_cons_self, e.symm⟩
      · obtain ⟨q, h1, h2⟩ := ih h
        exact ⟨q, List.mem_cons_of_mem _ h1, h2⟩
  obtain ⟨p, h1, rfl⟩ := go _ h
  exact (show ∀ p ∈ Lx.shapes, p.1.length ≤ 10 by decide) p h1
/-- What is written never takes more than so much. -/
theorem lineC_len {cm : Lx.Cm} {sh : List UInt8} (h : RightC cm) (hs : Lx.shape cm.word = some sh) (hm : ∀ z ∈ cm.nums, -9223372036854775808 ≤ z ∧ z ≤ 9223372036854775807) (hr : (-9223372036854775808 ≤ cm.rg.low ∧ cm.rg.low ≤ 9223372036854775807) ∧ (-9223372036854775808 ≤ cm.rg.high ∧ cm.rg.high ≤ 9223372036854775807)) (hx : 101 ∈ sh → (Lx.lineX cm.ex).length ≤ 400000) (j : Nat) : (cm.word ++ Lx.shL cm (sh.take j) 0 0).length ≤ 1700000 := by
  have hn : ∀ x ∈ cm.names, x.length ≤ 30 := fun x q => by have := (h.nam x q).hi; rwa [len_toArray] at this
  have a := Lx.shL_len hn hm hr (sh.take j) (fun q => hx (List.mem_of_mem_take q)) 0 0 (B := 400000)
  have b := (Lx.shape_let (Lx.shape_in hs)).1
  have c := shape_word hs
  rw [List.length_append]
  have d : (sh.take j).length ≤ 4 := by rw [List.length_take]; omega
  have e : (400000 + 101) * (sh.take j).length ≤ 400101 * 4 := Nat.mul_le_mul_left _ d
  omega
set_option maxRecDepth 20000 in
set_option maxHeartbeats 4000000 in
theorem pcmd_any (w : World) (D : Nat) (cm : Lx.Cm) (g : Cg) (hT : Tp w) (hg : CG w D cm g) (hnm : ∀ x ∈ cm.names, x.length ≤ maxLen) (hm : ∀ z ∈ cm.nums, -9223372036854775808 ≤ z ∧ z ≤ 9223372036854775807) (hrg : (-9223372036854775808 ≤ cm.rg.low ∧ cm.rg.low ≤ 9223372036854775807) ∧ (-9223372036854775808 ≤ cm.rg.high ∧ cm.rg.high ≤ 9223372036854775807)) (r : Bool) (hr : r = true ↔ RightC cm) :
    Calls Tryz.prog 12 #[.agg #[.string g.wb, .slice g.an g.nl g.nc, .slice g.am g.ml g.mc, .int .i64 g.lo, .int .i64 g.hi, .bool g.hl, .bool g.hh, .int .u8 g.z.p.op, .string g.z.p.nm, .slice g.z.an g.z.nn g.z.nc, .slice g.z.aa g.z.p.k g.z.ac]] w fun e w' => e = .returned (.tuple #[.string (if r = true then ⟨(Lx.lineC cm ((Lx.shape cm.word).getD [])).toArray⟩ else ⟨#[]⟩), .int .i64 (if r = true then 0 else 110)]) ∧ Below w.heap.size w w' := by
  have HRT : Hid (∀ W (q : Below w.heap.size w W), Calls Tryz.prog 13 #[.agg #[.string g.wb, .slice g.an g.nl g.nc, .slice g.am g.ml g.mc, .int .i64 g.lo, .int .i64 g.hi, .bool g.hl, .bool g.hh, .int .u8 g.z.p.op, .string g.z.p.nm, .slice g.z.an g.z.nn g.z.nc, .slice g.z.aa g.z.p.k g.z.ac]] W fun e w' => e = .returned (.bool r) ∧ Below W.heap.size W w') := Lib.hid (fun W q => pright_any W D cm g (hT.needs.keep q) (hg.keep q) hnm r hr)
  have HR := Lib.hid hr
  have HG := Lib.hid hg
  have HT := Lib.hid hT
  have HM := Lib.hid hm
  have HRGB := Lib.hid hrg
  obtain ⟨wb, an, nl, nc, am, ml, mc, lo, hi, hl, hh, z⟩ := g
  have HWD : Hid (wb = ⟨cm.word.toArray⟩) := Lib.hid hg.wd
  have HRG : Hid (cm.rg = ⟨lo, hi, hl, hh⟩) := Lib.hid hg.rg
  dsimp only at HRT ⊢
  obtain ⟨bx, hbx⟩ : ∃ y, w.heap.size = y := ⟨_, rfl⟩
  obtain ⟨w1, hw1⟩ : ∃ y, w.alloc (.cells #[.string wb, .slice an nl nc, .slice am ml mc, .int .i64 lo, .int .i64 hi, .bool hl, .bool hh, .int .u8 z.p.op, .string z.p.nm, .slice z.an z.nn z.nc, .slice z.aa z.p.k z.ac] 42) = y := ⟨_, rfl⟩
  have KA : Hid (Below w.heap.size w w1) := Lib.hid (by rw [← hw1]; exact (Below.refl _ w).alloc (Nat.le_refl _) _)
  have HX : Hid (w1.heap[bx]? = some (.cells #[.string wb, .slice an nl nc, .slice am ml mc, .int .i64 lo, .int .i64 hi, .bool hl, .bool hh, .int .u8 z.p.op, .string z.p.nm, .slice z.an z.nn z.nc, .slice z.aa z.p.k z.ac] 42 (0, 0))) := Lib.hid (by rw [← hw1, ← hbx, al_new])
  have HLOW : Hid (w.heap.size = bx) := Lib.hid hbx
  clear hr hg hT hm hrg hnm
  have e0 := cell_blk HX.out 0
  have e1 := cell_blk HX.out 1
  have e2 := cell_blk HX.out 2
  have e3 := cell_blk HX.out 3
  have e4 := cell_blk HX.out 4
  have e5 := cell_blk HX.out 5
  have e6 := cell_blk HX.out 6
  have e7 := cell_blk HX.out 7
  have e8 := cell_blk HX.out 8
  have e9 := cell_blk HX.out 9
  have e10 := cell_blk HX.out 10
  go_enter Tryz.func12, Tryz.ntmps12
  go_upto_region 1 with fail
  clear hw1 hbx
  go_wp2_with fail
  (with_reducible refine (HRT.out w1 KA.out).mono ?_)
  rintro e w2 ⟨rfl, q⟩
  have HX := Lib.hid (blk_below HX.out q)
  have KA := Lib.hid (KA.out.trans (q.mono KA.out.size))
  clear q HRT e0 e1 e2 e3 e4 e5 e6 e7 e8 e9 e10
  cases r
  · go_wp2_with fail
    go_returns
    exact ⟨by simp, KA.out⟩
  · have HRC : RightC cm := by first | exact HR.out.1 rfl | exact HR.out rfl | exact HR.out | exact HR.out.1 trivial
    obtain ⟨shl, hs⟩ := Option.isSome_iff_exists.1 HRC.ok
    have HXL : Hid (101 ∈ shl → Lx.Ok 40 cm.ex ∧ (Lx.lineX cm.ex).length ≤ 400000) := Lib.hid (fun q => right_len HG.out.ex (HRC.ex1 (by rw [hs]; exact q)))
    have HLC := Lib.hid (fun j => lineC_len HRC hs HM.out HRGB.out (fun q => (HXL.out q).2) j)
    have HLET := Lib.hid (Lx.shape_let (Lx.shape_in hs)).2
    have HLN := Lib.hid (Lx.shape_let (Lx.shape_in hs)).1
    have HNN : Hid (cm.names.length = Lx.cN shl) := Lib.hid (by have := HRC.nn; rw [hs] at this; exact this)
    have HMM : Hid (cm.nums.length = Lx.cI shl) := Lib.hid (by have := HRC.mm; rw [hs] at this; exact this)
    have HLINE : Hid (Lx.lineC cm ((Lx.shape cm.word).getD []) = cm.word ++ Lx.shL cm (shl.take shl.length) 0 0) := Lib.hid (by rw [hs, List.take_length]; rfl)
    have HSH : Hid (∀ W, Calls Tryz.prog 30 #[.string wb] W fun e w' => e = .returned (.tuple #[.string ⟨shl.toArray⟩, .bool true]) ∧ W = w') := Lib.hid (fun W => by
      have := shape_any wb W
      rw [show wb.data.toList = cm.word by rw [HWD.out], hs] at this
      exact this)
    obtain ⟨sb, hsb⟩ : ∃ y : ByteArray, ⟨shl.toArray⟩ = y := ⟨_, rfl⟩
    have HSB : Hid (sb.size = shl.length) := Lib.hid (by rw [← hsb]; rfl)
    have HLT : Hid (∀ i (h : i < sb.size) (h' : i < shl.length), (sb[i]'h) = shl[i]) := Lib.hid (by subst hsb; intro i h h'; rfl)
    rw [hsb] at HSH
    obtain ⟨b, hb⟩ : ∃ y, w2.heap.size = y := ⟨_, rfl⟩
    obtain ⟨w3, hw3⟩ : ∃ y, w2.alloc (.cells #[.pointer none, .slice none 0 0] 56) = y := ⟨_, rfl⟩
    have KB : Below w2.heap.size w2 w3 := by rw [← hw3]; exact (Below.refl _ w2).alloc (Nat.le_refl _) _
    have HP : Hid (PrS w w3 b []) := Lib.hid ⟨KA.out.trans (KB.mono KA.out.size), by rw [← hb]; exact KA.out.size, by
      rw [← hw3, ← hb]; exact Lib.IsBuilderF.of (Lib.fresh_isBuilder 56 5 w2)⟩
    have HBB : Hid (bx < b) := Lib.hid (by have := (Array.getElem?_eq_some_iff.1 HX.out).1; omega)
    have HX := Lib.hid (blk_below HX.out KB)
    have HWS : Hid (∀ W, PrS w W b [] → Calls Tryz.prog 29 #[.pointer (some ⟨b, 0, none⟩), .string wb] W fun e w' => e = .returned (.tuple #[.int .i64 wb.size, .nilIface]) ∧ Hid (PrS w w' b (cm.word ++ Lx.shL cm (shl.take 0) 0 0)) ∧ Hid (Lib.OthersKept 5 (some b) W w')) := Lib.hid (fun W p => by
      have l0 := HLC.out 0
      have := ws_any w W b [] wb p (by rw [HWD.out, len_toArray]; simp only [List.length_append, List.length_nil] at l0 ⊢; omega)
      rw [show [] ++ wb.data.toList = cm.word ++ Lx.shL cm (shl.take 0) 0 0 by rw [HWD.out]; simp [Lx.shL]] at this
      exact this)
    clear KB KA hs HR HRC hsb HWD
    go_upto_region 4 with fail
    clear hw3 hb
    have e0 := cell_blk HX.out 0
    go_wp2_with fail
    (with_reducible refine (HWS.out w3 HP.out).mono ?_)
    rintro e w4 ⟨rfl, HP4, HK4⟩
    have HX := Lib.hid (ok_blk HK4.out HX.out (by decide) (by have := HBB.out; omega))
    clear HWS HP HK4 e0
    have e0 := cell_blk HX.out 0
    go_wp2_with fail
    (with_reducible refine (HSH.out w4).mono ?_)
    rintro e w5 ⟨rfl, rfl⟩
    clear HSH e0
    obtain ⟨ib, hib⟩ : ∃ y, w4.heap.size = y := ⟨_, rfl⟩
    obtain ⟨w5, hw5⟩ : ∃ y, w4.iter sb 0 = y := ⟨_, rfl⟩
    have KA : Below w4.heap.size w4 w5 := by rw [← hw5]; exact (Below.refl _ w4).alloc (Nat.le_refl _) _
    have HI : Hid (CmW w w5 b bx ib #[.string wb, .slice an nl nc, .slice am ml mc, .int .i64 lo, .int .i64 hi, .bool hl, .bool hh, .int .u8 z.p.op, .string z.p.nm, .slice z.an z.nn z.nc, .slice z.aa z.p.k z.ac] sb 0 (cm.word ++ Lx.shL cm (shl.take 0) 0 0)) := Lib.hid ⟨HP4.out.keep KA, blk_below HX.out KA, by rw [← hw5, ← hib]; exact World.iter_heap w4 sb 0, ⟨by have := HLOW.out; omega, HBB.out, by have := HP4.out.lt; omega⟩⟩
    clear KA HP4 HX HBB HLOW
    go_upto_region 9 with fail
    try rw [hw5]
    try rw [hib]
    clear hw5 hib
    go_loopg [8, 9, 11] shl.length (fun k s8 s9 s11 wr => ∃ pos : Nat, k + pos = shl.length ∧ s8 = .int .i64 (Lx.cN (shl.take pos) : Nat) ∧ s9 = .int .i64 (Lx.cI (shl.take pos) : Nat) ∧ Hid (CmW w wr b bx ib #[.string wb, .slice an nl nc, .slice am ml mc, .int .i64 lo, .int .i64 hi, .bool hl, .bool hh, .int .u8 z.p.op, .string z.p.nm, .slice z.an z.nn z.nc, .slice z.aa z.p.k z.ac] sb pos (cm.word ++ Lx.shL cm (shl.take pos) 0 0)))
    case atStart => exact ⟨0, rfl, rfl, rfl, HI⟩
    case round =>
      clear HI
      obtain ⟨pos, hk, rfl, rfl, HI⟩ := hrel
      have HA4 : Hid (Lx.cN (shl.take pos) ≤ 4) := Lib.hid (Nat.le_trans (Lx.cN_len _) (by rw [List.length_take]; have := HLN.out; omega))
      have HI4 : Hid (Lx.cI (shl.take pos) ≤ 4) := Lib.hid (Nat.le_trans (Lx.cI_len _) (by rw [List.length_take]; have := HLN.out; omega))
      by_cases hp : pos < shl.length
      · have hp2 : pos < sb.size := by rw [HSB.out]; exact hp
        have hL := HLT.out pos hp2 hp
        have hOk := HLET.out _ (List.getElem_mem hp)
        have HNXL := Lib.hid (HLC.out (pos + 1))
        have HST0 : Hid (cm.word ++ Lx.shL cm (shl.take (pos + 1)) 0 0 = cm.word ++ Lx.shL cm (shl.take pos) 0 0 ++ [32] ++ Lx.letL cm shl[pos] (Lx.cN (shl.take pos)) (Lx.cI (shl.take pos))) := Lib.hid (by rw [Lx.shL_step cm shl pos hp]; simp only [List.append_assoc])
        have HCN0 := Lib.hid (Lx.cN_step shl pos hp)
        have HCI0 := Lib.hid (Lx.cI_step shl pos hp)
        have HAT := Lib.hid (fun q => Lx.cN_take shl pos hp q)
        have HIT := Lib.hid (fun q => Lx.cI_take shl pos hp q)
        obtain ⟨A, hA⟩ : ∃ A, Lx.cN (shl.take pos) = A := ⟨_, rfl⟩
        obtain ⟨I, hI⟩ : ∃ I, Lx.cI (shl.take pos) = I := ⟨_, rfl⟩
        rw [hA] at HST0 HCN0 HA4 HAT
        rw [hI] at HST0 HCI0 HI4 HIT
        simp only [hA, hI]
        obtain ⟨acc, hacc⟩ : ∃ y, cm.word ++ Lx.shL cm (shl.take pos) 0 0 = y := ⟨_, rfl⟩
        rw [hacc] at HI HST0
        have HSPL : Hid (acc.length + 1 + (Lx.letL cm shl[pos] A I).length ≤ 1700000) := Lib.hid (by have a := HNXL.out; rw [HST0.out] at a; simp only [List.length_append, List.length_cons, List.length_nil] at a; omega)
        have iA : (0 : Int) ≤ (A : Int) := by omega
        have iB : (A : Int) ≤ 4 := by have := HA4.out; omega
        have iC : (0 : Int) ≤ (I : Int) := by omega
        have iD : (I : Int) ≤ 4 := by have := HI4.out; omega
        have hnx : ∀ ty, (Instr.next (.pointer (some ⟨ib, 0, none⟩)) true ty).run Tryz.prog wr = .ok (.tuple #[.bool true, .int .i64 pos, .int .i32 (sb[pos]'hp2).toNat]) (nx wr ib sb (pos + 1)) := fun ty => run_next_at HI.out.it ty hp2 (by
          rw [hL]
          rcases hOk with e | e | e | e | e <;> rw [e] <;> decide)
        have HI2 := Lib.hid (HI.out.turn (pos + 1))
        obtain ⟨w6, hw6⟩ : ∃ y, nx wr ib sb (pos + 1) = y := ⟨_, rfl⟩
        rw [hw6] at hnx HI2
        rw [hL] at hnx
        have HSP := Lib.hid (ws_any w w6 b acc ⟨#[32]⟩ HI2.out.pr (by rw [show (⟨#[32]⟩ : ByteArray).size = 1 from rfl]; have := HSPL.out; omega))
        rw [show (⟨#[32]⟩ : ByteArray).data.toList = [32] from rfl] at HSP
        clear hw6 hL HI hA hI hacc HNXL
        rcases hOk with hx | hx | hx | hx | hx
        · have ha : A < cm.names.length := by rw [HNN.out]; exact HAT.out hx
          have HTX : Hid (Lx.letL cm shl[pos] A I = cm.names[A]) := Lib.hid (by rw [hx]; show cm.names.getD A [] = _; rw [List.getD_eq_getElem?_getD, List.getElem?_eq_getElem ha]; rfl)
          have HCN : Hid (Lx.cN (shl.take (pos + 1)) = A + 1) := Lib.hid (by rw [HCN0.out, hx]; rfl)
          have HCI : Hid (Lx.cI (shl.take (pos + 1)) = I) := Lib.hid (by rw [HCI0.out, hx]; rfl)
          obtain ⟨nb, np, han, hc⟩ := HG.out.nn.here (by have := HG.out.nn.len; rw [List.length_map] at this; dsimp only at this ⊢; omega)
          dsimp only at han
          have hc1 := hc A (by simpa using ha)
          rw [List.getElem_map] at hc1
          have HNL : Hid (A < nl) := Lib.hid (by have := HG.out.nn.len; rw [List.length_map] at this; dsimp only at this; omega)
          rw [HTX.out] at HST0 HSPL
          generalize cm.names[A] = nm at hc1 HST0 HSPL
          have a1 : (A : Int) < (nl : Int) := by have := HNL.out; omega
          have HE2 : Hid (acc ++ [32] ++ (⟨nm.toArray⟩ : ByteArray).data.toList = cm.word ++ Lx.shL cm (shl.take (pos + 1)) 0 0) := Lib.hid (by rw [HST0.out])
          have HL2 : Hid ((acc ++ [32]).length + (⟨nm.toArray⟩ : ByteArray).size ≤ 140737488355328) := Lib.hid (by rw [len_toArray]; simp only [List.length_append, List.length_cons, List.length_nil]; have := HSPL.out; omega)
          obtain ⟨nmb, hnmb⟩ : ∃ y : ByteArray, ⟨nm.toArray⟩ = y := ⟨_, rfl⟩
          rw [hnmb] at HE2 HL2 hc1
          rw [hx] at hnx
          have hnx : ∀ ty, (Instr.next (.pointer (some ⟨ib, 0, none⟩)) true ty).run Tryz.prog wr = .ok (.tuple #[.bool true, .int .i64 pos, .int .i32 110]) w6 := hnx
          subst han
          clear hc ha HST0 HCN0 HCI0 hx HAT HIT HTX hnmb
          go_upto_region 11 with fail
          clear hnx
          go_wp2_with fail
          (with_reducible refine HSP.out.mono ?_)
          rintro e w7 ⟨rfl, HP7, HK7⟩
          have HI3 := Lib.hid (HI2.out.call HP7.out HK7.out)
          clear HI2 HP7 HK7 HSP
          have e1 := cell_blk HI3.out.box 1
          have c1 := cell_keep hc1 HI3.out.pr.bw
          have HW2 := Lib.hid (ws_any w w7 b _ nmb HI3.out.pr HL2.out)
          rw [HE2.out] at HW2
          go_wp2_with fail
          (with_reducible refine HW2.out.mono ?_)
          rintro e w8 ⟨rfl, HP8, HK8⟩
          have HI5 := Lib.hid (HI3.out.call HP8.out HK8.out)
          clear HI3 HP8 HK8 HW2 e1 c1 hc1
          go_wp2_with fail
          go_roundg (gk - 1)
          case measure => omega
          case rel => exact ⟨pos + 1, by omega, by rw [HCN.out]; try go_num, by rw [HCI.out]; try go_num, HI5⟩
        · have ha : I < cm.nums.length := by rw [HMM.out]; exact HIT.out hx
          have HTX : Hid (Lx.letL cm shl[pos] A I = Lib.itoa cm.nums[I]) := Lib.hid (by rw [hx]; show Lib.itoa (cm.nums.getD I 0) = _; rw [List.getD_eq_getElem?_getD, List.getElem?_eq_getElem ha]; rfl)
          have HCN : Hid (Lx.cN (shl.take (pos + 1)) = A) := Lib.hid (by rw [HCN0.out, hx]; rfl)
          have HCI : Hid (Lx.cI (shl.take (pos + 1)) = I + 1) := Lib.hid (by rw [HCI0.out, hx]; rfl)
          obtain ⟨nb, np, han, hc⟩ := HG.out.mm.here (by have := HG.out.mm.len; dsimp only at this ⊢; omega)
          dsimp only at han
          have hc1 := (hc I ha).1
          have HZB := Lib.hid (hc I ha).2
          have HNL : Hid (I < ml) := Lib.hid (by have := HG.out.mm.len; dsimp only at this; omega)
          rw [HTX.out] at HST0 HSPL
          generalize cm.nums[I] = nm at hc1 HST0 HSPL HZB
          have a1 : (I : Int) < (ml : Int) := by have := HNL.out; omega
          have HE2 : Hid (acc ++ [32] ++ (⟨(Lib.itoa nm).toArray⟩ : ByteArray).data.toList = cm.word ++ Lx.shL cm (shl.take (pos + 1)) 0 0) := Lib.hid (by rw [HST0.out])
          have HL2 : Hid ((acc ++ [32]).length + (⟨(Lib.itoa nm).toArray⟩ : ByteArray).size ≤ 140737488355328) := Lib.hid (by rw [len_toArray]; simp only [List.length_append, List.length_cons, List.length_nil]; have := HSPL.out; omega)
          have HF := Lib.hid (fun W' q => fmt_any nm HZB.out.1 HZB.out.2 W' (HT.out.keep q))
          obtain ⟨nmb, hnmb⟩ : ∃ y : ByteArray, ⟨(Lib.itoa nm).toArray⟩ = y := ⟨_, rfl⟩
          rw [hnmb] at HE2 HL2 HF
          rw [hx] at hnx
          have hnx : ∀ ty, (Instr.next (.pointer (some ⟨ib, 0, none⟩)) true ty).run Tryz.prog wr = .ok (.tuple #[.bool true, .int .i64 pos, .int .i32 105]) w6 := hnx
          subst han
          clear hc ha HST0 HCN0 HCI0 hx HAT HIT HTX hnmb HZB
          go_upto_region 11 with fail
          clear hnx
          go_wp2_with fail
          (with_reducible refine HSP.out.mono ?_)
          rintro e w7 ⟨rfl, HP7, HK7⟩
          have HI3 := Lib.hid (HI2.out.call HP7.out HK7.out)
          clear HI2 HP7 HK7 HSP
          have e2 := cell_blk HI3.out.box 2
          have c1 := cell_keep hc1 HI3.out.pr.bw
          go_wp2_with fail
          (with_reducible refine (HF.out w7 HI3.out.pr.bw).mono ?_)
          rintro e w8 ⟨rfl, q⟩
          have HI3 := Lib.hid (HI3.out.keep q)
          clear q HF e2 c1 hc1
          have HW2 := Lib.hid (ws_any w w8 b _ nmb HI3.out.pr HL2.out)
          rw [HE2.out] at HW2
          go_wp2_with fail
          (with_reducible refine HW2.out.mono ?_)
          rintro e w9 ⟨rfl, HP8, HK8⟩
          have HI5 := Lib.hid (HI3.out.call HP8.out HK8.out)
          clear HI3 HP8 HK8 HW2
          go_wp2_with fail
          go_roundg (gk - 1)
          case measure => omega
          case rel => exact ⟨pos + 1, by omega, by rw [HCN.out]; try go_num, by rw [HCI.out]; try go_num, HI5⟩
        · have HTX : Hid (Lx.letL cm shl[pos] A I = Lx.lineX cm.ex) := Lib.hid (by rw [hx]; rfl)
          have HCN : Hid (Lx.cN (shl.take (pos + 1)) = A) := Lib.hid (by rw [HCN0.out, hx]; rfl)
          have HCI : Hid (Lx.cI (shl.take (pos + 1)) = I) := Lib.hid (by rw [HCI0.out, hx]; rfl)
          have HOX := Lib.hid (HXL.out (by rw [← hx]; exact List.getElem_mem hp))
          rw [HTX.out] at HST0 HSPL
          have HE2 : Hid (acc ++ [32] ++ Lx.lineX cm.ex = cm.word ++ Lx.shL cm (shl.take (pos + 1)) 0 0) := Lib.hid (by rw [HST0.out])
          have HL2 : Hid ((acc ++ [32]).length + (Lx.lineX cm.ex).length ≤ 70368744177664) := Lib.hid (by simp only [List.length_append, List.length_cons, List.length_nil]; have := HSPL.out; omega)
          rw [hx] at hnx
          have hnx : ∀ ty, (Instr.next (.pointer (some ⟨ib, 0, none⟩)) true ty).run Tryz.prog wr = .ok (.tuple #[.bool true, .int .i64 pos, .int .i32 101]) w6 := hnx
          clear HST0 HCN0 HCI0 hx HAT HIT HTX
          go_upto_region 11 with fail
          clear hnx
          go_wp2_with fail
          (with_reducible refine HSP.out.mono ?_)
          rintro e w7 ⟨rfl, HP7, HK7⟩
          have HI3 := Lib.hid (HI2.out.call HP7.out HK7.out)
          clear HI2 HP7 HK7 HSP
          have e7 := cell_blk HI3.out.box 7
          have e8 := cell_blk HI3.out.box 8
          have e9 := cell_blk HI3.out.box 9
          have e10 := cell_blk HI3.out.box 10
          have HW2 := Lib.hid (write_any w HT.out b 40 cm.ex D _ HG.out.ex HOX.out.1 w7 _ HI3.out.pr HL2.out)
          rw [HE2.out] at HW2
          unfold hV pv at HW2
          dsimp only at HW2
          go_wp2_with fail
          (with_reducible refine HW2.out.mono ?_)
          rintro e w8 ⟨rfl, HP8, HK8⟩
          have HI5 := Lib.hid (HI3.out.call HP8.out HK8.out)
          clear HI3 HP8 HK8 HW2 e7 e8 e9 e10
          go_wp2_with fail
          go_roundg (gk - 1)
          case measure => omega
          case rel => exact ⟨pos + 1, by omega, by rw [HCN.out]; try go_num, by rw [HCI.out]; try go_num, HI5⟩
        · have HTX : Hid (Lx.letL cm shl[pos] A I = [61]) := Lib.hid (by rw [hx]; rfl)
          have HCN : Hid (Lx.cN (shl.take (pos + 1)) = A) := Lib.hid (by rw [HCN0.out, hx]; rfl)
          have HCI : Hid (Lx.cI (shl.take (pos + 1)) = I) := Lib.hid (by rw [HCI0.out, hx]; rfl)
          rw [HTX.out] at HST0 HSPL
          have HE2 : Hid (acc ++ [32] ++ (Utf8.encode 61).data.toList = cm.word ++ Lx.shL cm (shl.take (pos + 1)) 0 0) := Lib.hid (by rw [HST0.out]; rfl)
          have HL2 : Hid ((acc ++ [32]).length + (Utf8.encode 61).size ≤ 140737488355328) := Lib.hid (by rw [show (Utf8.encode 61).size = 1 from rfl]; simp only [List.length_append, List.length_cons, List.length_nil]; have := HSPL.out; omega)
          rw [hx] at hnx
          have hnx : ∀ ty, (Instr.next (.pointer (some ⟨ib, 0, none⟩)) true ty).run Tryz.prog wr = .ok (.tuple #[.bool true, .int .i64 pos, .int .i32 61]) w6 := hnx
          clear HST0 HCN0 HCI0 hx HAT HIT HTX
          go_upto_region 11 with fail
          clear hnx
          go_wp2_with fail
          (with_reducible refine HSP.out.mono ?_)
          rintro e w7 ⟨rfl, HP7, HK7⟩
          have HI3 := Lib.hid (HI2.out.call HP7.out HK7.out)
          clear HI2 HP7 HK7 HSP
          have HW2 := Lib.hid (ws_any w w7 b _ (Utf8.encode 61) HI3.out.pr HL2.out)
          rw [HE2.out] at HW2
          go_wp2_with fail
          (with_reducible refine HW2.out.mono ?_)
          rintro e w8 ⟨rfl, HP8, HK8⟩
          have HI5 := Lib.hid (HI3.out.call HP8.out HK8.out)
          clear HI3 HP8 HK8 HW2
          go_wp2_with fail
          go_roundg (gk - 1)
          case measure => omega
          case rel => exact ⟨pos + 1, by omega, by rw [HCN.out]; try go_num, by rw [HCI.out]; try go_num, HI5⟩
        · have HTX : Hid (Lx.letL cm shl[pos] A I = Lx.rgL cm.rg) := Lib.hid (by rw [hx]; rfl)
          have HCN : Hid (Lx.cN (shl.take (pos + 1)) = A) := Lib.hid (by rw [HCN0.out, hx]; rfl)
          have HCI : Hid (Lx.cI (shl.take (pos + 1)) = I) := Lib.hid (by rw [HCI0.out, hx]; rfl)
          rw [HTX.out] at HST0 HSPL
          have HE2 : Hid (acc ++ [32] ++ (⟨(Lx.rgL cm.rg).toArray⟩ : ByteArray).data.toList = cm.word ++ Lx.shL cm (shl.take (pos + 1)) 0 0) := Lib.hid (by rw [HST0.out])
          have HL2 : Hid ((acc ++ [32]).length + (⟨(Lx.rgL cm.rg).toArray⟩ : ByteArray).size ≤ 140737488355328) := Lib.hid (by rw [len_toArray]; simp only [List.length_append, List.length_cons, List.length_nil]; have := HSPL.out; omega)
          have HF : Hid (∀ W' (q : Below w.heap.size w W'), Calls Tryz.prog 32 #[.agg #[.int .i64 lo, .int .i64 hi, .bool hl, .bool hh]] W' fun e w' => e = .returned (.string ⟨(Lx.rgL cm.rg).toArray⟩) ∧ Below W'.heap.size W' w') := Lib.hid (fun W' q => by
            have := pspan_any cm.rg W' (HT.out.keep q) HRGB.out.1 HRGB.out.2
            rw [HRG.out] at this ⊢
            exact this)
          obtain ⟨nmb, hnmb⟩ : ∃ y : ByteArray, ⟨(Lx.rgL cm.rg).toArray⟩ = y := ⟨_, rfl⟩
          rw [hnmb] at HE2 HL2 HF
          rw [hx] at hnx
          have hnx : ∀ ty, (Instr.next (.pointer (some ⟨ib, 0, none⟩)) true ty).run Tryz.prog wr = .ok (.tuple #[.bool true, .int .i64 pos, .int .i32 114]) w6 := hnx
          clear HST0 HCN0 HCI0 hx HAT HIT HTX hnmb
          go_upto_region 11 with fail
          clear hnx
          go_wp2_with fail
          (with_reducible refine HSP.out.mono ?_)
          rintro e w7 ⟨rfl, HP7, HK7⟩
          have HI3 := Lib.hid (HI2.out.call HP7.out HK7.out)
          clear HI2 HP7 HK7 HSP
          have e3 := cell_blk HI3.out.box 3
          have e4 := cell_blk HI3.out.box 4
          have e5 := cell_blk HI3.out.box 5
          have e6 := cell_blk HI3.out.box 6
          go_wp2_with fail
          (with_reducible refine (HF.out w7 HI3.out.pr.bw).mono ?_)
          rintro e w8 ⟨rfl, q⟩
          have HI3 := Lib.hid (HI3.out.keep q)
          clear q HF e3 e4 e5 e6
          have HW2 := Lib.hid (ws_any w w8 b _ nmb HI3.out.pr HL2.out)
          rw [HE2.out] at HW2
          go_wp2_with fail
          (with_reducible refine HW2.out.mono ?_)
          rintro e w9 ⟨rfl, HP8, HK8⟩
          have HI5 := Lib.hid (HI3.out.call HP8.out HK8.out)
          clear HI3 HP8 HK8 HW2
          go_wp2_with fail
          go_roundg (gk - 1)
          case measure => omega
          case rel => exact ⟨pos + 1, by omega, by rw [HCN.out]; try go_num, by rw [HCI.out]; try go_num, HI5⟩
      · have HPE : Hid (pos = shl.length) := Lib.hid (by omega)
        have hnx : ∀ ty, (Instr.next (.pointer (some ⟨ib, 0, none⟩)) true ty).run Tryz.prog wr = .ok (.tuple #[.bool false]) wr := fun ty => run_next_off HI.out.it ty (by rw [HSB.out]; omega)
        rw [HPE.out, ← HLINE.out] at HI
        have HS := Lib.hid (Tryz.Builder_String_any_k b b _ wr HI.out.pr.ib (Nat.le_of_lt HI.out.pr.lt))
        have HBW := Lib.hid HI.out.pr.bw
        have HLO := Lib.hid HI.out.pr.lo
        clear HI
        go_upto_region 24 with fail
        clear hnx
        go_wp2_with fail
        (with_reducible refine HS.out.mono ?_)
        rintro e w5 ⟨rfl, _, q, _⟩
        have HBW := Lib.hid (HBW.out.trans (q.mono HLO.out))
        clear q HS
        go_wp2_with fail
        go_returns
        exact ⟨by simp, HBW.out⟩
end Go.Proofs.YtimjendkpjojoaaGreatDoor
