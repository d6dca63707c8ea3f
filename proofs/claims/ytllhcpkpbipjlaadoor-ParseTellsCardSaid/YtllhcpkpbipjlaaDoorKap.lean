/- M16 in one. -/
import Derived.Test.YtllhcpkpbipjlaaDoorKao
namespace Go.Proofs.YtllhcpkpbipjlaaDoor
set_option linter.unusedVariables false
set_option linter.unusedSimpArgs false
open Go.ChangeShapes Go.WideShapes Go.ChangeAt Go.RowKit

/-- Tokens in memory appended to a row of the call's own, where it may come up. -/
theorem stepQ {ops : Array Oper} {o : Oper} {a : Act} {K : Act → World → Prop} {Q : Exit → Act → World → Prop} {E : Prop} (hgd : o.guard = none) (s x : Operand)
    (ho : o.op = .call { callee := .builtin .append, args := #[s, x], argTypes := #[22, 22] }) (base : Nat) (w : World) (v : Value) (n : Nat) (l : List Lx.Tk) (hs : a.eval s = v) (hown : w.ownsRow base 47 3 v n (tkCells l)) (ao : Option Addr) (m c : Nat) (k : List Lx.Tk) (hx : a.eval x = .slice ao m c) (hk : TkAt w ao m c k) (hm : 0 < m) (hn : n + m ≤ 1048576) (hbase : base ≤ w.heap.size)
    (h : ∀ v' w', w'.ownsRow base 47 3 v' (n + m) (tkCells (l ++ k)) → w.grownBy w' v.ownBlock → K (a.put o.dst v') w') :
    if Region.wanted o (yielded ops a.tmps) = true then Oper.wp Tryd.prog o a w K Q else E := by
  obtain ⟨k0, hk1, hkz0, hkz1, hkz2⟩ := info_parts' info47
  obtain ⟨bb, pp, rfl, hc⟩ := hk.here hm
  refine step_append_lies w hgd s x 22 ho base 47 k0 (.agg #[.int .u8 0, .string ⟨#[]⟩, .int .i64 0]) 3 32 Tryd.underlying22 hk1 hkz0 hkz1 hkz2 rfl (by decide) v n (tkCells l) hs hown ⟨bb, pp, none⟩ m c (tkCells k) hx (by rw [tkCells_len, hk.len]) (fun j u hj => ?_) (tkCells_one k) hm (by unfold maxLen; omega) (by omega) hbase _ rfl (fun g cap w' own gr _ _ => h _ w' (by rw [tkCells_app]; exact own) gr)
  have hj2 : j < k.length * 3 := by
    have := (List.getElem?_eq_some_iff.1 hj).1
    rwa [tkCells_len] at this
  rw [show (Addr.add ⟨bb, pp, none⟩ j) = ⟨bb, pp + j, none⟩ by simp only [Addr.add]; split <;> simp_all]
  have hi : j / 3 < k.length := by omega
  obtain ⟨c0, c1, c2⟩ := hc (j / 3) hi
  obtain ⟨g0, g1, g2⟩ := tkCells_get k (j / 3) hi
  have hr : j % 3 = 0 ∨ j % 3 = 1 ∨ j % 3 = 2 := by omega
  rcases hr with r | r | r
  · rw [show j = j / 3 * 3 by omega] at hj ⊢
    rw [g0] at hj; rw [← hj]; exact c0
  · rw [show j = j / 3 * 3 + 1 by omega] at hj ⊢
    rw [g1] at hj; rw [← hj, ← Nat.add_assoc]; exact c1
  · rw [show j = j / 3 * 3 + 2 by omega] at hj ⊢
    rw [g2] at hj; rw [← hj, ← Nat.add_assoc]; exact c2
/-- The boxes of the law. -/
structure Pb (w W : World) (b : Nat) (cx ct : Array Value) : Prop where
  bw : Below w.heap.size w W
  h3 : W.heap[b]? = some (.cells cx 31 (0, 0))
  h5 : W.heap[b + 1]? = some (.cells ct 47 (0, 0))
theorem Pb.keep {w W W' : World} {b : Nat} {cx ct : Array Value} (h : Pb w W b cx ct) (q : Below W.heap.size W W') : Pb w W' b cx ct :=
  ⟨h.bw.trans (q.mono h.bw.size), blk_below h.h3 q, blk_below h.h5 q⟩
/-- What is known of the words. -/
structure Wf (x : Lx.Ex) (lw : List Lx.Tk) : Prop where
  all : Lx.exprE lw = (x, -1, 0)
  cut : ∀ m, m < lw.length → m ≠ 1 → (Lx.exprE (lw.take m)).2.1 = (m : Int) ∧ (Lx.exprE (lw.take m)).2.2 = 110
  one : 1 < lw.length → ∃ w, lw[0]? = some (1, w, 0) ∧ Lx.exprE (lw.take 1) = (Lx.leaf w, -1, 0)
  more : ∀ t : Lx.Tk, (lw.length = 1 → ¬ (t.1 = 4 ∧ t.2.1 = [40])) → (Lx.exprE (lw ++ [t])).2.1 = (lw.length : Int) ∧ (Lx.exprE (lw ++ [t])).2.2 = 110
  pos : 1 ≤ lw.length
  len : lw.length ≤ 19999
  tkb : Lx.TkB lw
theorem wf_of {x : Lx.Ex} (h : RightL (tour x 1)) (hf : ∀ y ∈ tour x 1, Fine y.1) : Wf x (Lx.wordsX x) := by
  obtain ⟨h1, h2⟩ := right_ok h hf
  exact ⟨Lx.back_all h1 h2, Lx.back_cut h1 h2, fun q => Lx.back_one h1 q, Lx.back_more h1 h2, Lx.wordsX_pos x, by have := words_len 40 x h1; omega, tkb_words 40 x 1 h1 hf⟩
set_option maxRecDepth 20000 in
set_option maxHeartbeats 4000000 in
theorem parseBack_walk (n : Nat) (v : Value) (F : Tour) (a : Int) (T : Lx.Tk) (w : World) (hT : Tabn w) (hW : Tabw w) (hE : ExAt w n v F) (hn : n ≤ 1048576) (hl : (F 1).length ≤ 1048576) (a0 : 0 ≤ a) (a1 : a ≤ 65535) (hB : Lx.TkB [T]) :
    Calls Tryd.prog 4 #[v, .int .u16 a, .agg #[.int .u8 T.1, .string ⟨T.2.1.toArray⟩, .int .i64 T.2.2]] w fun e w' => e = .returned (.bool true) ∧ Below w.heap.size w w' := by
  have HTB := Lib.hid hB
  have HAW := Lib.hid (fun W (k : Below w.heap.size w W) => awake_any W (hT.keep k) (hW.keep k))
  have HEX := Lib.hid (fun W ao n c l (k : Below w.heap.size w W) (h1 : TkAt W ao n c l) (h2 : Lx.TkB l) => expr_any W ao n c l h1 h2 (hT.keep k) (hW.keep k))
  obtain ⟨x, rfl⟩ := tour_ex n v F hE
  have HCT := Lib.hid (fun W (k : Below w.heap.size w W) => rcount_any n v (tour x) W (hE.keep k) hl)
  obtain ⟨r, hr⟩ : ∃ r : Bool, r = true ↔ RightL (tour x 1) := by classical exact ⟨decide _, decide_eq_true_iff⟩
  have HRT := Lib.hid (fun W (k : Below w.heap.size w W) => rright_any n v (tour x) W (hE.keep k) hn hl r hr)
  have HR := Lib.hid hr
  have HFI := Lib.hid (ex_fine hE 1)
  have HWD := Lib.hid (fun W (k : Below w.heap.size w W) (h : RightL (tour x 1)) => words_any 40 x n v W (hE.keep k) (right_ok h (ex_fine hE 1)).1 (right_ok h (ex_fine hE 1)).2)
  have HSM := Lib.hid (fun W (k : Below w.heap.size w W) v' (q : ExAt W 41 v' (tour x)) => rsame_any n v (tour x) 41 v' (tour x) W (hE.keep k) q true ⟨fun _ => rfl, fun _ => rfl⟩)
  obtain ⟨y, hy⟩ : ∃ y, ((tour x 1).length : Int) = y := ⟨_, rfl⟩
  rw [hy] at HCT
  obtain ⟨p, an, nn, nc, aa, ac, rfl, _⟩ := hE.head
  obtain ⟨k, s, z⟩ := T
  dsimp only
  unfold pv at *
  obtain ⟨sb, hsb⟩ : ∃ sb : ByteArray, ⟨s.toArray⟩ = sb := ⟨_, rfl⟩
  have HSB := Lib.hid hsb
  rw [hsb]
  obtain ⟨b, hb⟩ : ∃ z, w.heap.size = z := ⟨_, rfl⟩
  obtain ⟨w1, hw1⟩ : ∃ z', (w.alloc (.cells #[.int .u8 p.op, .string p.nm, .slice an nn nc, .slice aa p.k ac] 31)).alloc (.cells #[.int .u8 k, .string sb, .int .i64 z] 47) = z' := ⟨_, rfl⟩
  have HP : Hid (Pb w w1 b #[.int .u8 p.op, .string p.nm, .slice an nn nc, .slice aa p.k ac] #[.int .u8 k, .string sb, .int .i64 z]) := Lib.hid ⟨by rw [← hw1]; exact ((Below.refl _ w).alloc (Nat.le_refl _) _).alloc (by simp) _, by rw [← hw1, ← hb, al_old _ _ (by simp), al_new], by
    rw [← hw1, ← hb]
    have := al_new (w.alloc (.cells #[.int .u8 p.op, .string p.nm, .slice an nn nc, .slice aa p.k ac] 31)) (.cells #[.int .u8 k, .string sb, .int .i64 z] 47)
    simpa using this⟩
  clear hT hW hE hn hl hB hr hy hsb
  have e0 := cell_blk HP.out.h3 0
  have e1 := cell_blk HP.out.h3 1
  have e2 := cell_blk HP.out.h3 2
  have e3 := cell_blk HP.out.h3 3
  go_enter Tryd.func4, Tryd.ntmps4
  go_wp2_with fail
  (with_reducible refine (HCT.out _ HP.out.bw).mono ?_)
  rintro e w2 ⟨rfl, q⟩
  have HP := Lib.hid (HP.out.keep q)
  clear q HCT e0 e1 e2 e3 hw1 hb
  have e0 := cell_blk HP.out.h3 0
  have e1 := cell_blk HP.out.h3 1
  have e2 := cell_blk HP.out.h3 2
  have e3 := cell_blk HP.out.h3 3
  by_cases y1 : (2000 : Int) < y
  · have HX := Lib.hid (HAW.out w2 HP.out.bw)
    go_wp2_with fail
    (with_reducible refine HX.out.mono ?_)
    rintro e w3 ⟨rfl, q⟩
    go_wp2
    go_returns
    exact ⟨rfl, HP.out.bw.trans (q.mono HP.out.bw.size)⟩
  · have y2 : y ≤ 2000 := by omega
    go_wp2_with fail
    (with_reducible refine (HRT.out _ HP.out.bw).mono ?_)
    rintro e w3 ⟨rfl, q⟩
    have HP := Lib.hid (HP.out.keep q)
    clear q HRT e0 e1 e2 e3 y1
    have e0 := cell_blk HP.out.h3 0
    have e1 := cell_blk HP.out.h3 1
    have e2 := cell_blk HP.out.h3 2
    have e3 := cell_blk HP.out.h3 3
    cases r
    · have HX := Lib.hid (HAW.out w3 HP.out.bw)
      go_wp2_with fail
      (with_reducible refine HX.out.mono ?_)
      rintro e w4 ⟨rfl, q⟩
      go_wp2
      go_returns
      exact ⟨rfl, HP.out.bw.trans (q.mono HP.out.bw.size)⟩
    · have HRL := HR.out.1 rfl
      have HWF := Lib.hid (wf_of HRL HFI.out)
      have HX := Lib.hid (HWD.out w3 HP.out.bw HRL)
      obtain ⟨lw, hlw⟩ : ∃ lw, Lx.wordsX x = lw := ⟨_, rfl⟩
      rw [hlw] at HWF HX
      obtain ⟨L, hL⟩ : ∃ L, lw.length = L := ⟨_, rfl⟩
      have HLL := Lib.hid hL
      rw [hL] at HX
      clear HRL HR HWD hlw hL HFI
      go_wp2_with fail
      (with_reducible refine HX.out.mono ?_)
      rintro e w4 ⟨ao, c, rfl, q, HTK⟩
      have HP := Lib.hid (HP.out.keep q.out)
      clear q HX e0 e1 e2 e3
      have HX := Lib.hid (HEX.out w4 ao L c lw HP.out.bw HTK.out HWF.out.tkb)
      rw [HWF.out.all] at HX
      dsimp only at HX
      go_wp2_with fail
      (with_reducible refine HX.out.mono ?_)
      rintro e w5 ⟨zz, rfl, HB5, HE5⟩
      obtain ⟨b8, hb8⟩ : ∃ z, w5.heap.size = z := ⟨_, rfl⟩
      obtain ⟨w6, hw6⟩ : ∃ y, w5.alloc (.cells #[.int .u8 zz.p.op, .string zz.p.nm, .slice zz.an zz.nn zz.nc, .slice zz.aa zz.p.k zz.ac] 31) = y := ⟨_, rfl⟩
      have KA : Below w5.heap.size w5 w6 := by rw [← hw6]; exact (Below.refl _ w5).alloc (Nat.le_refl _) _
      have H8 : Hid (w6.heap[b8]? = some (.cells #[.int .u8 zz.p.op, .string zz.p.nm, .slice zz.an zz.nn zz.nc, .slice zz.aa zz.p.k zz.ac] 31 (0, 0))) := Lib.hid (by rw [← hw6, ← hb8, al_new])
      have HTK := Lib.hid (HTK.out.keep (HB5.out.trans (KA.mono HB5.out.size)))
      have HP := Lib.hid ((HP.out.keep HB5.out).keep KA)
      have HE6 : Hid (ExAt w6 41 (.agg #[.int .u8 zz.p.op, .string zz.p.nm, .slice zz.an zz.nn zz.nc, .slice zz.aa zz.p.k zz.ac]) (tour x)) := Lib.hid ((HE5.out.sub only_all).keep KA)
      have HWX := Lib.hid hw6
      have HBX := Lib.hid hb8
      clear HX HB5 HE5 KA hw6 hb8
      go_upto_region 5 with fail
      rw [HWX.out, HBX.out]
      clear HWX HBX
      have e0 := cell_blk HP.out.h3 0
      have e1 := cell_blk HP.out.h3 1
      have e2 := cell_blk HP.out.h3 2
      have e3 := cell_blk HP.out.h3 3
      have f0 := cell_blk H8.out 0
      have f1 := cell_blk H8.out 1
      have f2 := cell_blk H8.out 2
      have f3 := cell_blk H8.out 3
      go_wp2_with fail
      (with_reducible refine (HSM.out _ HP.out.bw (.agg #[.int .u8 zz.p.op, .string zz.p.nm, .slice zz.an zz.nn zz.nc, .slice zz.aa zz.p.k zz.ac]) HE6.out).mono ?_)
      rintro e w7 ⟨rfl, q⟩
      have HTK := Lib.hid (HTK.out.keep q)
      have HP := Lib.hid (HP.out.keep q)
      clear q HE6 H8 HSM e0 e1 e2 e3 f0 f1 f2 f3
      have L1 : (L : Int) ≤ 19999 := by have := HWF.out.len; have := HLL.out; omega
      have L0 : (0 : Int) < (L : Int) := by have := HWF.out.pos; have := HLL.out; omega
      have L2 : ((L : Int) == 0) = false := by rw [beq_eq_false_iff_ne]; omega
      go_upto_region 8 with fail
      obtain ⟨m, hm⟩ : ∃ m : Nat, a % (L : Int) = (m : Int) := ⟨(a % (L : Int)).toNat, by have := Int.emod_nonneg a (show (L : Int) ≠ 0 by omega); omega⟩
      have hmL : m < L := by have := Int.emod_lt_of_pos a L0; omega
      rw [hm]
      clear hm a0 a1
      have m0 : (0 : Int) ≤ (m : Int) := by omega
      have m2 : (m : Int) ≤ 19999 := by omega
      have mc : (m : Int) ≤ (c : Int) := by have := HTK.out.le; omega
      have HX := Lib.hid (HEX.out w7 ao m c (lw.take m) HP.out.bw (HTK.out.take (by omega)) (tkb_take HWF.out.tkb m))
      by_cases m1 : m = 1
      · obtain ⟨wd, hw0, hw1⟩ := HWF.out.one (by have := HLL.out; omega)
        subst m1
        rw [hw1] at HX
        dsimp only at HX
        have HTX : Hid (∃ b p, ao = some ⟨b, p, none⟩ ∧ w7.cell? ⟨b, p + 1, none⟩ = some (.string ⟨wd.toArray⟩)) := Lib.hid (by
          obtain ⟨b, p, e, hc⟩ := HTK.out.here (by omega)
          obtain ⟨h0, e0⟩ := List.getElem?_eq_some_iff.1 hw0
          have := (hc 0 h0).2.1
          rw [e0] at this
          exact ⟨b, p, e, by simpa using this⟩)
        clear hw0 hw1
        go_wp2_with fail
        (with_reducible refine HX.out.mono ?_)
        rintro e w8 ⟨z9, rfl, HB8, HE9⟩
        have HNM : Hid (z9.p.nm = ⟨wd.toArray⟩) := Lib.hid (by
          obtain ⟨_, _, _, _, _, _, _, e, _⟩ := ex_kids HE9.out
          unfold hV pv at e
          simp at e
          exact e.2.1)
        obtain ⟨b12, hb12⟩ : ∃ z, w8.heap.size = z := ⟨_, rfl⟩
        obtain ⟨w9, hw9⟩ : ∃ y, w8.alloc (.cells #[.int .u8 z9.p.op, .string z9.p.nm, .slice z9.an z9.nn z9.nc, .slice z9.aa z9.p.k z9.ac] 31) = y := ⟨_, rfl⟩
        have KB : Hid (Below w7.heap.size w7 w9) := Lib.hid (HB8.out.trans (show Below w7.heap.size w8 w9 by rw [← hw9]; exact ((Below.refl _ w8).alloc (Nat.le_refl _) _).mono HB8.out.size))
        have H12 : Hid (w9.heap[b12]? = some (.cells #[.int .u8 z9.p.op, .string z9.p.nm, .slice z9.an z9.nn z9.nc, .slice z9.aa z9.p.k z9.ac] 31 (0, 0))) := Lib.hid (by rw [← hw9, ← hb12, al_new])
        have HTK := Lib.hid (HTK.out.keep KB.out)
        have HP := Lib.hid (HP.out.keep KB.out)
        have HWX := Lib.hid hw9
        have HBX := Lib.hid hb12
        clear HX HB8 HE9 hw9 hb12
        go_upto_region 9 with fail
        rw [HWX.out, HBX.out]
        clear HWX HBX
        go_upto_region 10 with fail
        obtain ⟨lb, lp, rfl, c1⟩ := HTX.out
        have c1 := cell_keep c1 KB.out
        have f1 : w9.cell? ⟨b12, 1, none⟩ = some (.string ⟨wd.toArray⟩) := by rw [← HNM.out]; exact cell_blk H12.out 1
        go_quiet (fail)
        obtain ⟨wT, hwT⟩ : ∃ y, w9.drewN nq = y := ⟨_, rfl⟩
        have KB : Hid (Below w9.heap.size w9 wT) := Lib.hid (by rw [← hwT]; exact below_drewN (Below.refl _ w9) nq)
        have HTK := Lib.hid (HTK.out.keep KB.out)
        have HP := Lib.hid (HP.out.keep KB.out)
        rw [hwT]
        clear hwT KB H12 c1 f1 HTX HNM
        have t0 := cell_blk HP.out.h5 0
        have t1 := cell_blk HP.out.h5 1
        have t2 := cell_blk HP.out.h5 2
        have Lp : 1 ≤ L := by omega
        have L3 : L ≤ 19999 := by omega
        obtain ⟨G, hG⟩ : ∃ G : Bool, G = true ↔ (L = 1 ∧ k = 4 ∧ sb = ⟨#[40]⟩) := by classical exact ⟨decide _, decide_eq_true_iff⟩
        have e40 : (⟨#[40]⟩ : ByteArray).toList = [40] := by kernel_rfl
        go_upto_region 14 with fail
        go_cut [87] from 75 to 87 (fun s87 wx => s87 = .bool G ∧ wx = wT)
        case first =>
          by_cases g1 : L = 1
          · have h1 : ((L : Int) == 1) = true := by rw [g1]; rfl
            by_cases g2 : k = 4
            · have h2 : (k == 4) = true := by rw [g2]; rfl
              by_cases g3 : sb = ⟨#[40]⟩
              · have h3 : (sb.toList == [40]) = true := by rw [g3, e40]; rfl
                have g9 : G = true := hG.2 ⟨g1, g2, g3⟩
                clear hG g1 g2 g3
                go_wp2_with fail
                go_meet
                case rel => exact ⟨by rw [g9], rfl⟩
              · have h3 : (sb.toList == [40]) = false := by rw [beq_eq_false_iff_ne]; intro e; exact g3 ((nm_inj _ _).1 (e.trans e40.symm))
                have g9 : G = false := by cases G; rfl; exact absurd (hG.1 rfl).2.2 g3
                clear hG g1 g2 g3
                go_wp2_with fail
                go_meet
                case rel => exact ⟨by rw [g9], rfl⟩
            · have h2 : (k == 4) = false := by rw [beq_eq_false_iff_ne]; exact g2
              have g9 : G = false := by cases G; rfl; exact absurd (hG.1 rfl).2.1 g2
              clear hG g1 g2
              go_wp2_with fail
              go_meet
              case rel => exact ⟨by rw [g9], rfl⟩
          · have h1 : ((L : Int) == 1) = false := by rw [beq_eq_false_iff_ne]; omega
            have g9 : G = false := by cases G; rfl; exact absurd (hG.1 rfl).1 g1
            clear hG g1
            go_wp2_with fail
            go_meet
            case rel => exact ⟨by rw [g9], rfl⟩
        case rest =>
          obtain ⟨rfl, hwx⟩ := hcut
          rw [hwx]
          clear hwx e40
          cases G
          · have HMO := Lib.hid (HWF.out.more (k, s, z) (fun q r => absurd (hG.2 ⟨by have := HLL.out; omega, r.1, by rw [← HSB.out]; exact congrArg (fun l : List UInt8 => (⟨l.toArray⟩ : ByteArray)) r.2⟩) (by decide)))
            have HNL : Hid ([] ++ lw ++ [(k, s, z)] = lw ++ [(k, s, z)]) := Lib.hid (by simp)
            have HNN : Hid (([] ++ lw ++ [(k, s, z)]).length = 0 + L + 1) := Lib.hid (by rw [List.nil_append, List.length_append, HLL.out, Nat.zero_add]; rfl)
            have HTC : Hid (#[.int .u8 k, .string sb, .int .i64 z].toList = tkCells [(k, s, z)]) := Lib.hid (by rw [← HSB.out]; rfl)
            rw [HLL.out] at HMO
            have HSF : Hid (∀ W, Pb w W b #[.int .u8 p.op, .string p.nm, .slice an nn nc, .slice aa p.k ac] #[.int .u8 k, .string sb, .int .i64 z] → W.cell? ⟨b + 1, 0, none⟩ = some (.int .u8 k) ∧ W.cell? ⟨b + 1, 1, none⟩ = some (.string sb) ∧ W.cell? ⟨b + 1, 2, none⟩ = some (.int .i64 z) ∧ Hid (Pb w W b #[.int .u8 p.op, .string p.nm, .slice an nn nc, .slice aa p.k ac] #[.int .u8 k, .string sb, .int .i64 z])) := Lib.hid (fun W h => ⟨cell_blk h.h5 0, cell_blk h.h5 1, cell_blk h.h5 2, Lib.hid h⟩)
            have HBr : Hid (Below wT.heap.size wT wT.drew) := Lib.hid (Below.refl _ wT).drew
            clear hG
            go_upto_region 16 with fail
            go_cut [9, 10] from 90 to 10 (fun s9 s10 wx => s9 = .int .i64 L ∧ s10 = .int .i64 110 ∧ Hid (Below w.heap.size w wx))
            case first =>
              refine wp_region_held_drew (S := (fun W => W.cell? ⟨b + 1, 0, none⟩ = some (.int .u8 k) ∧ W.cell? ⟨b + 1, 1, none⟩ = some (.string sb) ∧ W.cell? ⟨b + 1, 2, none⟩ = some (.int .i64 z) ∧ Hid (Pb w W b #[.int .u8 p.op, .string p.nm, .slice an nn nc, .slice aa p.k ac] #[.int .u8 k, .string sb, .int .i64 z]))) (by kernel_rfl) ?_ (fun hHeld => ?_)
              · exact HSF.out _ (HP.out.keep (Below.refl _ wT).drew)
              refine wpAnyH_take (i := 1) (oi := _) (v := ?_) rfl (by kernel_rfl) (by kernel_rfl) (by kernel_rfl) (fun _ _ _ h => h) (Or.inl ⟨by kernel_rfl, ?_⟩) (by assumption) ?_
              rotate_left 1
              focus (intro wq hSw; (try dsimp only at hSw); obtain ⟨s0, s1, s2, s3⟩ := hSw; go_simp; (try with_reducible rfl); done)
              try simp only [List.getElem_toArray, List.getElem_cons_zero, List.getElem_cons_succ, Act.put, List.setIfInBounds_toArray, List.set_cons_zero, List.set_cons_succ]
              refine wpAnyH_take (i := 3) (oi := _) (v := ?_) rfl (by kernel_rfl) (by kernel_rfl) (by kernel_rfl) (fun _ _ _ h => h) (Or.inl ⟨by kernel_rfl, ?_⟩) (by assumption) ?_
              rotate_left 1
              focus (intro wq hSw; (try dsimp only at hSw); obtain ⟨s0, s1, s2, s3⟩ := hSw; go_simp; (try with_reducible rfl); done)
              try simp only [List.getElem_toArray, List.getElem_cons_zero, List.getElem_cons_succ, Act.put, List.setIfInBounds_toArray, List.set_cons_zero, List.set_cons_succ]
              refine wpAnyH_ready (rs := [0, 4]) (by kernel_rfl) (by simp) ?_
              refine AllReadyH.cons (o := _) rfl (fun K hK => ?_) (AllReadyH.cons (o := _) rfl (fun K hK => ?_) AllReadyH.nil)
              · rw [if_pos (by kernel_rfl)]
                go_simp
                have HO := Lib.hid (own_empty (B := wT.heap.size) (g := wT.heap.size) (w := (wT.drew.alloc (.cells #[] 47))) (by omega) (by have h := al_new wT.drew (.cells #[] 47); simpa using h) (Nat.le_trans HBr.out.size (by simp)))
                have HBr := Lib.hid (HBr.out.alloc HBr.out.size (.cells #[] 47))
                first | refine hK.out _ _ ?_ (fun hHeld => ?_) | (go_wp2_with fail; refine hK.out _ _ ?_ (fun hHeld => ?_))
                · exact HSF.out _ (HP.out.keep HBr.out)
                clear hK K
                try simp only [List.getElem_toArray, List.getElem_cons_zero, List.getElem_cons_succ, Act.put, List.setIfInBounds_toArray, List.set_cons_zero, List.set_cons_succ]
                refine wpAnyH_ready (rs := [2, 4]) (by kernel_rfl) (by simp) ?_
                refine AllReadyH.cons (o := _) rfl (fun K hK => ?_) (AllReadyH.cons (o := _) rfl (fun K hK => ?_) AllReadyH.nil)
                · refine stepQ rfl (.tmp 90) (.tmp 91) rfl wT.heap.size _ _ 0 [] rfl HO.out (some ⟨lb, lp, none⟩) L c lw rfl (HTK.out.keep HBr.out) (by omega) (by omega) HBr.out.size ?_
                  intro v4 w4 own gr
                  have HBr := Lib.hid (below_grown HBr.out gr (fun q e => (HO.out.lt q e).1) HBr.out.size)
                  have HO := Lib.hid own
                  clear own gr
                  first | refine hK.out _ _ ?_ (fun hHeld => ?_) | (go_wp2_with fail; refine hK.out _ _ ?_ (fun hHeld => ?_))
                  · exact HSF.out _ (HP.out.keep HBr.out)
                  clear hK K
                  try simp only [List.getElem_toArray, List.getElem_cons_zero, List.getElem_cons_succ, Act.put, List.setIfInBounds_toArray, List.set_cons_zero, List.set_cons_succ]
                  refine wpAnyH_ready (rs := [4]) (by kernel_rfl) (by simp) ?_
                  refine AllReadyH.cons (o := _) rfl (fun K hK => ?_) AllReadyH.nil
                  rw [if_pos (by kernel_rfl)]
                  go_simp
                  have HO := Lib.hid (HO.out.alloc (.cells #[.int .u8 k, .string sb, .int .i64 z] 47))
                  have HK : Hid ((w4.alloc (.cells #[.int .u8 k, .string sb, .int .i64 z] 47)).heap[w4.heap.size]? = some (.cells #[.int .u8 k, .string sb, .int .i64 z] 47 (0, 0))) := Lib.hid (by have h := al_new w4 (.cells #[.int .u8 k, .string sb, .int .i64 z] 47); simpa using h)
                  have HBr := Lib.hid (HBr.out.alloc HBr.out.size (.cells #[.int .u8 k, .string sb, .int .i64 z] 47))
                  first | refine hK.out _ _ ?_ (fun hHeld => ?_) | (go_wp2_with fail; refine hK.out _ _ ?_ (fun hHeld => ?_))
                  · exact HSF.out _ (HP.out.keep HBr.out)
                  clear hK K
                  try simp only [List.getElem_toArray, List.getElem_cons_zero, List.getElem_cons_succ, Act.put, List.setIfInBounds_toArray, List.set_cons_zero, List.set_cons_succ]
                  refine wpAnyH_ready (rs := [5]) (by kernel_rfl) (by simp) ?_
                  refine AllReadyH.cons (o := _) rfl (fun K hK => ?_) AllReadyH.nil
                  refine stepQ rfl (.tmp 92) (.tmp 94) rfl wT.heap.size _ _ (0 + L) ([] ++ lw) rfl HO.out (some ⟨w4.heap.size, 0, none⟩) 1 1 [(k, s, z)] rfl (tk_block [(k, s, z)] HK.out HTC.out rfl (by omega)) (by omega) (by omega) HBr.out.size ?_
                  intro v5 w5 own gr
                  obtain ⟨o3, c3, rfl, ht⟩ := own_tk2 own HNN.out
                  have HBr := Lib.hid (below_grown HBr.out gr (fun q e => (HO.out.lt q e).1) HBr.out.size)
                  have HXX := Lib.hid (HEX.out w5 o3 _ c3 _ (HP.out.bw.trans (HBr.out.mono HP.out.bw.size)) ht (tkb_app (tkb_app tkb_nil HWF.out.tkb) HTB.out))
                  rw [HNL.out, HMO.out.1, HMO.out.2, Nat.zero_add] at HXX
                  clear own gr ht HK HO
                  first | refine hK.out _ _ ?_ (fun hHeld => ?_) | (go_wp2_with fail; refine hK.out _ _ ?_ (fun hHeld => ?_))
                  · exact HSF.out _ (HP.out.keep HBr.out)
                  clear hK K
                  try simp only [List.getElem_toArray, List.getElem_cons_zero, List.getElem_cons_succ, Act.put, List.setIfInBounds_toArray, List.set_cons_zero, List.set_cons_succ]
                  refine wpAnyH_ready (rs := [6]) (by kernel_rfl) (by simp) ?_
                  refine AllReadyH.cons (o := _) rfl (fun K hK => ?_) AllReadyH.nil
                  rw [if_pos (by kernel_rfl)]
                  go_simp
                  (go_at_call 13; (with_reducible refine HXX.out.mono ?_); rintro e w6 ⟨z6, rfl, HB6, _⟩; have HBr := Lib.hid (HBr.out.trans (HB6.out.mono HBr.out.size)))
                  first | refine hK.out _ _ ?_ (fun hHeld => ?_) | (go_wp2_with fail; refine hK.out _ _ ?_ (fun hHeld => ?_))
                  · exact HSF.out _ (HP.out.keep HBr.out)
                  clear hK K
                  try simp only [List.getElem_toArray, List.getElem_cons_zero, List.getElem_cons_succ, Act.put, List.setIfInBounds_toArray, List.set_cons_zero, List.set_cons_succ]
                  refine wpAnyH_take (i := 7) (oi := _) (v := ?_) rfl (by kernel_rfl) (by kernel_rfl) (by kernel_rfl) (fun _ _ _ h => h) (Or.inl ⟨by kernel_rfl, ?_⟩) (by assumption) ?_
                  rotate_left 1
                  focus (intro wq hSw; (try dsimp only at hSw); obtain ⟨s0, s1, s2, s3⟩ := hSw; go_simp; (try with_reducible rfl); done)
                  try simp only [List.getElem_toArray, List.getElem_cons_zero, List.getElem_cons_succ, Act.put, List.setIfInBounds_toArray, List.set_cons_zero, List.set_cons_succ]
                  refine wpAnyH_take (i := 8) (oi := _) (v := ?_) rfl (by kernel_rfl) (by kernel_rfl) (by kernel_rfl) (fun _ _ _ h => h) (Or.inl ⟨by kernel_rfl, ?_⟩) (by assumption) ?_
                  rotate_left 1
                  focus (intro wq hSw; (try dsimp only at hSw); obtain ⟨s0, s1, s2, s3⟩ := hSw; go_simp; (try with_reducible rfl); done)
                  try simp only [List.getElem_toArray, List.getElem_cons_zero, List.getElem_cons_succ, Act.put, List.setIfInBounds_toArray, List.set_cons_zero, List.set_cons_succ]
                  refine wpAnyH_take (i := 9) (oi := _) (v := ?_) rfl (by kernel_rfl) (by kernel_rfl) (by kernel_rfl) (fun _ _ _ h => h) (Or.inl ⟨by kernel_rfl, ?_⟩) (by assumption) ?_
                  rotate_left 1
                  focus (intro wq hSw; (try dsimp only at hSw); obtain ⟨s0, s1, s2, s3⟩ := hSw; go_simp; (try with_reducible rfl); done)
                  try simp only [List.getElem_toArray, List.getElem_cons_zero, List.getElem_cons_succ, Act.put, List.setIfInBounds_toArray, List.set_cons_zero, List.set_cons_succ]
                  refine wpAnyH_take (i := 10) (oi := _) (v := ?_) rfl (by kernel_rfl) (by kernel_rfl) (by kernel_rfl) (fun _ _ _ h => h) (Or.inl ⟨by kernel_rfl, ?_⟩) (by assumption) ?_
                  rotate_left 1
                  focus (intro wq hSw; (try dsimp only at hSw); obtain ⟨s0, s1, s2, s3⟩ := hSw; go_simp; (try with_reducible rfl); done)
                  try simp only [List.getElem_toArray, List.getElem_cons_zero, List.getElem_cons_succ, Act.put, List.setIfInBounds_toArray, List.set_cons_zero, List.set_cons_succ]
                  refine wpAnyH_take (i := 11) (oi := _) (v := ?_) rfl (by kernel_rfl) (by kernel_rfl) (by kernel_rfl) (fun _ _ _ h => h) (Or.inl ⟨by kernel_rfl, ?_⟩) (by assumption) ?_
                  rotate_left 1
                  focus (intro wq hSw; (try dsimp only at hSw); obtain ⟨s0, s1, s2, s3⟩ := hSw; go_simp; (try with_reducible rfl); done)
                  try simp only [List.getElem_toArray, List.getElem_cons_zero, List.getElem_cons_succ, Act.put, List.setIfInBounds_toArray, List.set_cons_zero, List.set_cons_succ]
                  refine wpAnyH_take (i := 12) (oi := _) (v := ?_) rfl (by kernel_rfl) (by kernel_rfl) (by kernel_rfl) (fun _ _ _ h => h) (Or.inl ⟨by kernel_rfl, ?_⟩) (by assumption) ?_
                  rotate_left 1
                  focus (intro wq hSw; (try dsimp only at hSw); obtain ⟨s0, s1, s2, s3⟩ := hSw; go_simp; (try with_reducible rfl); done)
                  try simp only [List.getElem_toArray, List.getElem_cons_zero, List.getElem_cons_succ, Act.put, List.setIfInBounds_toArray, List.set_cons_zero, List.set_cons_succ]
                  refine wpAnyH_done (by kernel_rfl) ?_ _
                  have HTW := Lib.hid (HP.out.bw.trans (HBr.out.mono HP.out.bw.size))
                  go_wp2_with fail
                  go_meet
                  case rel => exact ⟨rfl, rfl, HTW⟩
                · rw [if_pos (by kernel_rfl)]
                  go_simp
                  have HO := Lib.hid (HO.out.alloc (.cells #[.int .u8 k, .string sb, .int .i64 z] 47))
                  have HK : Hid (((wT.drew.alloc (.cells #[] 47)).alloc (.cells #[.int .u8 k, .string sb, .int .i64 z] 47)).heap[wT.heap.size + 1]? = some (.cells #[.int .u8 k, .string sb, .int .i64 z] 47 (0, 0))) := Lib.hid (by have h := al_new (wT.drew.alloc (.cells #[] 47)) (.cells #[.int .u8 k, .string sb, .int .i64 z] 47); simpa using h)
                  have HBr := Lib.hid (HBr.out.alloc HBr.out.size (.cells #[.int .u8 k, .string sb, .int .i64 z] 47))
                  first | refine hK.out _ _ ?_ (fun hHeld => ?_) | (go_wp2_with fail; refine hK.out _ _ ?_ (fun hHeld => ?_))
                  · exact HSF.out _ (HP.out.keep HBr.out)
                  clear hK K
                  try simp only [List.getElem_toArray, List.getElem_cons_zero, List.getElem_cons_succ, Act.put, List.setIfInBounds_toArray, List.set_cons_zero, List.set_cons_succ]
                  refine wpAnyH_ready (rs := [2]) (by kernel_rfl) (by simp) ?_
                  refine AllReadyH.cons (o := _) rfl (fun K hK => ?_) AllReadyH.nil
                  refine stepQ rfl (.tmp 90) (.tmp 91) rfl wT.heap.size _ _ 0 [] rfl HO.out (some ⟨lb, lp, none⟩) L c lw rfl (HTK.out.keep HBr.out) (by omega) (by omega) HBr.out.size ?_
                  intro v4 w4 own gr
                  have HK := Lib.hid ((gr.block _ (Array.getElem?_eq_some_iff.1 HK.out).1 (by intro e; have e : wT.heap.size + 1 = wT.heap.size := Option.some.inj e; omega)).trans HK.out)
                  have HBr := Lib.hid (below_grown HBr.out gr (fun q e => (HO.out.lt q e).1) HBr.out.size)
                  have HO := Lib.hid own
                  clear own gr
                  first | refine hK.out _ _ ?_ (fun hHeld => ?_) | (go_wp2_with fail; refine hK.out _ _ ?_ (fun hHeld => ?_))
                  · exact HSF.out _ (HP.out.keep HBr.out)
                  clear hK K
                  try simp only [List.getElem_toArray, List.getElem_cons_zero, List.getElem_cons_succ, Act.put, List.setIfInBounds_toArray, List.set_cons_zero, List.set_cons_succ]
                  refine wpAnyH_ready (rs := [5]) (by kernel_rfl) (by simp) ?_
                  refine AllReadyH.cons (o := _) rfl (fun K hK => ?_) AllReadyH.nil
                  refine stepQ rfl (.tmp 92) (.tmp 94) rfl wT.heap.size _ _ (0 + L) ([] ++ lw) rfl HO.out (some ⟨wT.heap.size + 1, 0, none⟩) 1 1 [(k, s, z)] rfl (tk_block [(k, s, z)] HK.out HTC.out rfl (by omega)) (by omega) (by omega) HBr.out.size ?_
                  intro v5 w5 own gr
                  obtain ⟨o3, c3, rfl, ht⟩ := own_tk2 own HNN.out
                  have HBr := Lib.hid (below_grown HBr.out gr (fun q e => (HO.out.lt q e).1) HBr.out.size)
                  have HXX := Lib.hid (HEX.out w5 o3 _ c3 _ (HP.out.bw.trans (HBr.out.mono HP.out.bw.size)) ht (tkb_app (tkb_app tkb_nil HWF.out.tkb) HTB.out))
                  rw [HNL.out, HMO.out.1, HMO.out.2, Nat.zero_add] at HXX
                  clear own gr ht HK HO
                  first | refine hK.out _ _ ?_ (fun hHeld => ?_) | (go_wp2_with fail; refine hK.out _ _ ?_ (fun hHeld => ?_))
                  · exact HSF.out _ (HP.out.keep HBr.out)
                  clear hK K
                  try simp only [List.getElem_toArray, List.getElem_cons_zero, List.getElem_cons_succ, Act.put, List.setIfInBounds_toArray, List.set_cons_zero, List.set_cons_succ]
                  refine wpAnyH_ready (rs := [6]) (by kernel_rfl) (by simp) ?_
                  refine AllReadyH.cons (o := _) rfl (fun K hK => ?_) AllReadyH.nil
                  rw [if_pos (by kernel_rfl)]
                  go_simp
                  (go_at_call 13; (with_reducible refine HXX.out.mono ?_); rintro e w6 ⟨z6, rfl, HB6, _⟩; have HBr := Lib.hid (HBr.out.trans (HB6.out.mono HBr.out.size)))
                  first | refine hK.out _ _ ?_ (fun hHeld => ?_) | (go_wp2_with fail; refine hK.out _ _ ?_ (fun hHeld => ?_))
                  · exact HSF.out _ (HP.out.keep HBr.out)
                  clear hK K
                  try simp only [List.getElem_toArray, List.getElem_cons_zero, List.getElem_cons_succ, Act.put, List.setIfInBounds_toArray, List.set_cons_zero, List.set_cons_succ]
                  refine wpAnyH_take (i := 7) (oi := _) (v := ?_) rfl (by kernel_rfl) (by kernel_rfl) (by kernel_rfl) (fun _ _ _ h => h) (Or.inl ⟨by kernel_rfl, ?_⟩) (by assumption) ?_
                  rotate_left 1
                  focus (intro wq hSw; (try dsimp only at hSw); obtain ⟨s0, s1, s2, s3⟩ := hSw; go_simp; (try with_reducible rfl); done)
                  try simp only [List.getElem_toArray, List.getElem_cons_zero, List.getElem_cons_succ, Act.put, List.setIfInBounds_toArray, List.set_cons_zero, List.set_cons_succ]
                  refine wpAnyH_take (i := 8) (oi := _) (v := ?_) rfl (by kernel_rfl) (by kernel_rfl) (by kernel_rfl) (fun _ _ _ h => h) (Or.inl ⟨by kernel_rfl, ?_⟩) (by assumption) ?_
                  rotate_left 1
                  focus (intro wq hSw; (try dsimp only at hSw); obtain ⟨s0, s1, s2, s3⟩ := hSw; go_simp; (try with_reducible rfl); done)
                  try simp only [List.getElem_toArray, List.getElem_cons_zero, List.getElem_cons_succ, Act.put, List.setIfInBounds_toArray, List.set_cons_zero, List.set_cons_succ]
                  refine wpAnyH_take (i := 9) (oi := _) (v := ?_) rfl (by kernel_rfl) (by kernel_rfl) (by kernel_rfl) (fun _ _ _ h => h) (Or.inl ⟨by kernel_rfl, ?_⟩) (by assumption) ?_
                  rotate_left 1
                  focus (intro wq hSw; (try dsimp only at hSw); obtain ⟨s0, s1, s2, s3⟩ := hSw; go_simp; (try with_reducible rfl); done)
                  try simp only [List.getElem_toArray, List.getElem_cons_zero, List.getElem_cons_succ, Act.put, List.setIfInBounds_toArray, List.set_cons_zero, List.set_cons_succ]
                  refine wpAnyH_take (i := 10) (oi := _) (v := ?_) rfl (by kernel_rfl) (by kernel_rfl) (by kernel_rfl) (fun _ _ _ h => h) (Or.inl ⟨by kernel_rfl, ?_⟩) (by assumption) ?_
                  rotate_left 1
                  focus (intro wq hSw; (try dsimp only at hSw); obtain ⟨s0, s1, s2, s3⟩ := hSw; go_simp; (try with_reducible rfl); done)
                  try simp only [List.getElem_toArray, List.getElem_cons_zero, List.getElem_cons_succ, Act.put, List.setIfInBounds_toArray, List.set_cons_zero, List.set_cons_succ]
                  refine wpAnyH_take (i := 11) (oi := _) (v := ?_) rfl (by kernel_rfl) (by kernel_rfl) (by kernel_rfl) (fun _ _ _ h => h) (Or.inl ⟨by kernel_rfl, ?_⟩) (by assumption) ?_
                  rotate_left 1
                  focus (intro wq hSw; (try dsimp only at hSw); obtain ⟨s0, s1, s2, s3⟩ := hSw; go_simp; (try with_reducible rfl); done)
                  try simp only [List.getElem_toArray, List.getElem_cons_zero, List.getElem_cons_succ, Act.put, List.setIfInBounds_toArray, List.set_cons_zero, List.set_cons_succ]
                  refine wpAnyH_take (i := 12) (oi := _) (v := ?_) rfl (by kernel_rfl) (by kernel_rfl) (by kernel_rfl) (fun _ _ _ h => h) (Or.inl ⟨by kernel_rfl, ?_⟩) (by assumption) ?_
                  rotate_left 1
                  focus (intro wq hSw; (try dsimp only at hSw); obtain ⟨s0, s1, s2, s3⟩ := hSw; go_simp; (try with_reducible rfl); done)
                  try simp only [List.getElem_toArray, List.getElem_cons_zero, List.getElem_cons_succ, Act.put, List.setIfInBounds_toArray, List.set_cons_zero, List.set_cons_succ]
                  refine wpAnyH_done (by kernel_rfl) ?_ _
                  have HTW := Lib.hid (HP.out.bw.trans (HBr.out.mono HP.out.bw.size))
                  go_wp2_with fail
                  go_meet
                  case rel => exact ⟨rfl, rfl, HTW⟩
              · rw [if_pos (by kernel_rfl)]
                go_simp
                have HK : Hid ((wT.drew.alloc (.cells #[.int .u8 k, .string sb, .int .i64 z] 47)).heap[wT.heap.size]? = some (.cells #[.int .u8 k, .string sb, .int .i64 z] 47 (0, 0))) := Lib.hid (by have h := al_new wT.drew (.cells #[.int .u8 k, .string sb, .int .i64 z] 47); simpa using h)
                have HBr := Lib.hid (HBr.out.alloc HBr.out.size (.cells #[.int .u8 k, .string sb, .int .i64 z] 47))
                first | refine hK.out _ _ ?_ (fun hHeld => ?_) | (go_wp2_with fail; refine hK.out _ _ ?_ (fun hHeld => ?_))
                · exact HSF.out _ (HP.out.keep HBr.out)
                clear hK K
                try simp only [List.getElem_toArray, List.getElem_cons_zero, List.getElem_cons_succ, Act.put, List.setIfInBounds_toArray, List.set_cons_zero, List.set_cons_succ]
                refine wpAnyH_ready (rs := [0]) (by kernel_rfl) (by simp) ?_
                refine AllReadyH.cons (o := _) rfl (fun K hK => ?_) AllReadyH.nil
                rw [if_pos (by kernel_rfl)]
                go_simp
                have HO := Lib.hid (own_empty (B := wT.heap.size) (g := wT.heap.size + 1) (w := ((wT.drew.alloc (.cells #[.int .u8 k, .string sb, .int .i64 z] 47)).alloc (.cells #[] 47))) (by omega) (by have h := al_new (wT.drew.alloc (.cells #[.int .u8 k, .string sb, .int .i64 z] 47)) (.cells #[] 47); simpa using h) (Nat.le_trans HBr.out.size (by simp)))
                have HK := Lib.hid ((al_old (wT.drew.alloc (.cells #[.int .u8 k, .string sb, .int .i64 z] 47)) (.cells #[] 47) (Array.getElem?_eq_some_iff.1 HK.out).1).trans HK.out)
                have HBr := Lib.hid (HBr.out.alloc HBr.out.size (.cells #[] 47))
                first | refine hK.out _ _ ?_ (fun hHeld => ?_) | (go_wp2_with fail; refine hK.out _ _ ?_ (fun hHeld => ?_))
                · exact HSF.out _ (HP.out.keep HBr.out)
                clear hK K
                try simp only [List.getElem_toArray, List.getElem_cons_zero, List.getElem_cons_succ, Act.put, List.setIfInBounds_toArray, List.set_cons_zero, List.set_cons_succ]
                refine wpAnyH_ready (rs := [2]) (by kernel_rfl) (by simp) ?_
                refine AllReadyH.cons (o := _) rfl (fun K hK => ?_) AllReadyH.nil
                refine stepQ rfl (.tmp 90) (.tmp 91) rfl wT.heap.size _ _ 0 [] rfl HO.out (some ⟨lb, lp, none⟩) L c lw rfl (HTK.out.keep HBr.out) (by omega) (by omega) HBr.out.size ?_
                intro v4 w4 own gr
                have HK := Lib.hid ((gr.block _ (Array.getElem?_eq_some_iff.1 HK.out).1 (by intro e; have e : wT.heap.size = wT.heap.size + 1 := Option.some.inj e; omega)).trans HK.out)
                have HBr := Lib.hid (below_grown HBr.out gr (fun q e => (HO.out.lt q e).1) HBr.out.size)
                have HO := Lib.hid own
                clear own gr
                first | refine hK.out _ _ ?_ (fun hHeld => ?_) | (go_wp2_with fail; refine hK.out _ _ ?_ (fun hHeld => ?_))
                · exact HSF.out _ (HP.out.keep HBr.out)
                clear hK K
                try simp only [List.getElem_toArray, List.getElem_cons_zero, List.getElem_cons_succ, Act.put, List.setIfInBounds_toArray, List.set_cons_zero, List.set_cons_succ]
                refine wpAnyH_ready (rs := [5]) (by kernel_rfl) (by simp) ?_
                refine AllReadyH.cons (o := _) rfl (fun K hK => ?_) AllReadyH.nil
                refine stepQ rfl (.tmp 92) (.tmp 94) rfl wT.heap.size _ _ (0 + L) ([] ++ lw) rfl HO.out (some ⟨wT.heap.size, 0, none⟩) 1 1 [(k, s, z)] rfl (tk_block [(k, s, z)] HK.out HTC.out rfl (by omega)) (by omega) (by omega) HBr.out.size ?_
                intro v5 w5 own gr
                obtain ⟨o3, c3, rfl, ht⟩ := own_tk2 own HNN.out
                have HBr := Lib.hid (below_grown HBr.out gr (fun q e => (HO.out.lt q e).1) HBr.out.size)
                have HXX := Lib.hid (HEX.out w5 o3 _ c3 _ (HP.out.bw.trans (HBr.out.mono HP.out.bw.size)) ht (tkb_app (tkb_app tkb_nil HWF.out.tkb) HTB.out))
                rw [HNL.out, HMO.out.1, HMO.out.2, Nat.zero_add] at HXX
                clear own gr ht HK HO
                first | refine hK.out _ _ ?_ (fun hHeld => ?_) | (go_wp2_with fail; refine hK.out _ _ ?_ (fun hHeld => ?_))
                · exact HSF.out _ (HP.out.keep HBr.out)
                clear hK K
                try simp only [List.getElem_toArray, List.getElem_cons_zero, List.getElem_cons_succ, Act.put, List.setIfInBounds_toArray, List.set_cons_zero, List.set_cons_succ]
                refine wpAnyH_ready (rs := [6]) (by kernel_rfl) (by simp) ?_
                refine AllReadyH.cons (o := _) rfl (fun K hK => ?_) AllReadyH.nil
                rw [if_pos (by kernel_rfl)]
                go_simp
                (go_at_call 13; (with_reducible refine HXX.out.mono ?_); rintro e w6 ⟨z6, rfl, HB6, _⟩; have HBr := Lib.hid (HBr.out.trans (HB6.out.mono HBr.out.size)))
                first | refine hK.out _ _ ?_ (fun hHeld => ?_) | (go_wp2_with fail; refine hK.out _ _ ?_ (fun hHeld => ?_))
                · exact HSF.out _ (HP.out.keep HBr.out)
                clear hK K
                try simp only [List.getElem_toArray, List.getElem_cons_zero, List.getElem_cons_succ, Act.put, List.setIfInBounds_toArray, List.set_cons_zero, List.set_cons_succ]
                refine wpAnyH_take (i := 7) (oi := _) (v := ?_) rfl (by kernel_rfl) (by kernel_rfl) (by kernel_rfl) (fun _ _ _ h => h) (Or.inl ⟨by kernel_rfl, ?_⟩) (by assumption) ?_
                rotate_left 1
                focus (intro wq hSw; (try dsimp only at hSw); obtain ⟨s0, s1, s2, s3⟩ := hSw; go_simp; (try with_reducible rfl); done)
                try simp only [List.getElem_toArray, List.getElem_cons_zero, List.getElem_cons_succ, Act.put, List.setIfInBounds_toArray, List.set_cons_zero, List.set_cons_succ]
                refine wpAnyH_take (i := 8) (oi := _) (v := ?_) rfl (by kernel_rfl) (by kernel_rfl) (by kernel_rfl) (fun _ _ _ h => h) (Or.inl ⟨by kernel_rfl, ?_⟩) (by assumption) ?_
                rotate_left 1
                focus (intro wq hSw; (try dsimp only at hSw); obtain ⟨s0, s1, s2, s3⟩ := hSw; go_simp; (try with_reducible rfl); done)
                try simp only [List.getElem_toArray, List.getElem_cons_zero, List.getElem_cons_succ, Act.put, List.setIfInBounds_toArray, List.set_cons_zero, List.set_cons_succ]
                refine wpAnyH_take (i := 9) (oi := _) (v := ?_) rfl (by kernel_rfl) (by kernel_rfl) (by kernel_rfl) (fun _ _ _ h => h) (Or.inl ⟨by kernel_rfl, ?_⟩) (by assumption) ?_
                rotate_left 1
                focus (intro wq hSw; (try dsimp only at hSw); obtain ⟨s0, s1, s2, s3⟩ := hSw; go_simp; (try with_reducible rfl); done)
                try simp only [List.getElem_toArray, List.getElem_cons_zero, List.getElem_cons_succ, Act.put, List.setIfInBounds_toArray, List.set_cons_zero, List.set_cons_succ]
                refine wpAnyH_take (i := 10) (oi := _) (v := ?_) rfl (by kernel_rfl) (by kernel_rfl) (by kernel_rfl) (fun _ _ _ h => h) (Or.inl ⟨by kernel_rfl, ?_⟩) (by assumption) ?_
                rotate_left 1
                focus (intro wq hSw; (try dsimp only at hSw); obtain ⟨s0, s1, s2, s3⟩ := hSw; go_simp; (try with_reducible rfl); done)
                try simp only [List.getElem_toArray, List.getElem_cons_zero, List.getElem_cons_succ, Act.put, List.setIfInBounds_toArray, List.set_cons_zero, List.set_cons_succ]
                refine wpAnyH_take (i := 11) (oi := _) (v := ?_) rfl (by kernel_rfl) (by kernel_rfl) (by kernel_rfl) (fun _ _ _ h => h) (Or.inl ⟨by kernel_rfl, ?_⟩) (by assumption) ?_
                rotate_left 1
                focus (intro wq hSw; (try dsimp only at hSw); obtain ⟨s0, s1, s2, s3⟩ := hSw; go_simp; (try with_reducible rfl); done)
                try simp only [List.getElem_toArray, List.getElem_cons_zero, List.getElem_cons_succ, Act.put, List.setIfInBounds_toArray, List.set_cons_zero, List.set_cons_succ]
                refine wpAnyH_take (i := 12) (oi := _) (v := ?_) rfl (by kernel_rfl) (by kernel_rfl) (by kernel_rfl) (fun _ _ _ h => h) (Or.inl ⟨by kernel_rfl, ?_⟩) (by assumption) ?_
                rotate_left 1
                focus (intro wq hSw; (try dsimp only at hSw); obtain ⟨s0, s1, s2, s3⟩ := hSw; go_simp; (try with_reducible rfl); done)
                try simp only [List.getElem_toArray, List.getElem_cons_zero, List.getElem_cons_succ, Act.put, List.setIfInBounds_toArray, List.set_cons_zero, List.set_cons_succ]
                refine wpAnyH_done (by kernel_rfl) ?_ _
                have HTW := Lib.hid (HP.out.bw.trans (HBr.out.mono HP.out.bw.size))
                go_wp2_with fail
                go_meet
                case rel => exact ⟨rfl, rfl, HTW⟩
            case rest =>
              obtain ⟨rfl, rfl, HBX⟩ := hcut
              have HX := Lib.hid (HAW.out _ HBX.out)
              go_wp2_with fail
              (with_reducible refine HX.out.mono ?_)
              rintro e w10 ⟨rfl, q⟩
              go_wp2
              go_returns
              exact ⟨rfl, HBX.out.trans (q.mono HBX.out.size)⟩
          · have HX := Lib.hid (HAW.out _ HP.out.bw)
            go_wp2_with fail
            (with_reducible refine HX.out.mono ?_)
            rintro e w10 ⟨rfl, q⟩
            go_wp2
            go_returns
            exact ⟨rfl, HP.out.bw.trans (q.mono HP.out.bw.size)⟩
      · obtain ⟨k1, k2⟩ := HWF.out.cut m (by rw [HLL.out]; exact hmL) m1
        rw [k1, k2] at HX
        have e91 : ((m : Int) == 1) = false := by rw [beq_eq_false_iff_ne]; omega
        clear k1 k2
        go_wp2_with fail
        (with_reducible refine HX.out.mono ?_)
        rintro e w8 ⟨z9, rfl, HB8, HE9⟩
        obtain ⟨b12, hb12⟩ : ∃ z, w8.heap.size = z := ⟨_, rfl⟩
        obtain ⟨w9, hw9⟩ : ∃ y, w8.alloc (.cells #[.int .u8 z9.p.op, .string z9.p.nm, .slice z9.an z9.nn z9.nc, .slice z9.aa z9.p.k z9.ac] 31) = y := ⟨_, rfl⟩
        have KB : Hid (Below w7.heap.size w7 w9) := Lib.hid (HB8.out.trans (show Below w7.heap.size w8 w9 by rw [← hw9]; exact ((Below.refl _ w8).alloc (Nat.le_refl _) _).mono HB8.out.size))
        have H12 : Hid (w9.heap[b12]? = some (.cells #[.int .u8 z9.p.op, .string z9.p.nm, .slice z9.an z9.nn z9.nc, .slice z9.aa z9.p.k z9.ac] 31 (0, 0))) := Lib.hid (by rw [← hw9, ← hb12, al_new])
        have HTK := Lib.hid (HTK.out.keep KB.out)
        have HP := Lib.hid (HP.out.keep KB.out)
        have HWX := Lib.hid hw9
        have HBX := Lib.hid hb12
        clear HX HB8 HE9 hw9 hb12
        go_upto_region 9 with fail
        rw [HWX.out, HBX.out]
        clear HWX HBX
        obtain ⟨lb, lp, rfl, _⟩ := HTK.out.here (by omega)
        clear KB H12
        have t0 := cell_blk HP.out.h5 0
        have t1 := cell_blk HP.out.h5 1
        have t2 := cell_blk HP.out.h5 2
        have Lp : 1 ≤ L := by omega
        have L3 : L ≤ 19999 := by omega
        obtain ⟨G, hG⟩ : ∃ G : Bool, G = true ↔ (L = 1 ∧ k = 4 ∧ sb = ⟨#[40]⟩) := by classical exact ⟨decide _, decide_eq_true_iff⟩
        have e40 : (⟨#[40]⟩ : ByteArray).toList = [40] := by kernel_rfl
        go_upto_region 14 with fail
        go_cut [87] from 75 to 87 (fun s87 wx => s87 = .bool G ∧ wx = w9)
        case first =>
          by_cases g1 : L = 1
          · have h1 : ((L : Int) == 1) = true := by rw [g1]; rfl
            by_cases g2 : k = 4
            · have h2 : (k == 4) = true := by rw [g2]; rfl
              by_cases g3 : sb = ⟨#[40]⟩
              · have h3 : (sb.toList == [40]) = true := by rw [g3, e40]; rfl
                have g9 : G = true := hG.2 ⟨g1, g2, g3⟩
                clear hG g1 g2 g3
                go_wp2_with fail
                go_meet
                case rel => exact ⟨by rw [g9], rfl⟩
              · have h3 : (sb.toList == [40]) = false := by rw [beq_eq_false_iff_ne]; intro e; exact g3 ((nm_inj _ _).1 (e.trans e40.symm))
                have g9 : G = false := by cases G; rfl; exact absurd (hG.1 rfl).2.2 g3
                clear hG g1 g2 g3
                go_wp2_with fail
                go_meet
                case rel => exact ⟨by rw [g9], rfl⟩
            · have h2 : (k == 4) = false := by rw [beq_eq_false_iff_ne]; exact g2
              have g9 : G = false := by cases G; rfl; exact absurd (hG.1 rfl).2.1 g2
              clear hG g1 g2
              go_wp2_with fail
              go_meet
              case rel => exact ⟨by rw [g9], rfl⟩
          · have h1 : ((L : Int) == 1) = false := by rw [beq_eq_false_iff_ne]; omega
            have g9 : G = false := by cases G; rfl; exact absurd (hG.1 rfl).1 g1
            clear hG g1
            go_wp2_with fail
            go_meet
            case rel => exact ⟨by rw [g9], rfl⟩
        case rest =>
          obtain ⟨rfl, hwx⟩ := hcut
          rw [hwx]
          clear hwx e40
          cases G
          · have HMO := Lib.hid (HWF.out.more (k, s, z) (fun q r => absurd (hG.2 ⟨by have := HLL.out; omega, r.1, by rw [← HSB.out]; exact congrArg (fun l : List UInt8 => (⟨l.toArray⟩ : ByteArray)) r.2⟩) (by decide)))
            have HNL : Hid ([] ++ lw ++ [(k, s, z)] = lw ++ [(k, s, z)]) := Lib.hid (by simp)
            have HNN : Hid (([] ++ lw ++ [(k, s, z)]).length = 0 + L + 1) := Lib.hid (by rw [List.nil_append, List.length_append, HLL.out, Nat.zero_add]; rfl)
            have HTC : Hid (#[.int .u8 k, .string sb, .int .i64 z].toList = tkCells [(k, s, z)]) := Lib.hid (by rw [← HSB.out]; rfl)
            rw [HLL.out] at HMO
            have HSF : Hid (∀ W, Pb w W b #[.int .u8 p.op, .string p.nm, .slice an nn nc, .slice aa p.k ac] #[.int .u8 k, .string sb, .int .i64 z] → W.cell? ⟨b + 1, 0, none⟩ = some (.int .u8 k) ∧ W.cell? ⟨b + 1, 1, none⟩ = some (.string sb) ∧ W.cell? ⟨b + 1, 2, none⟩ = some (.int .i64 z) ∧ Hid (Pb w W b #[.int .u8 p.op, .string p.nm, .slice an nn nc, .slice aa p.k ac] #[.int .u8 k, .string sb, .int .i64 z])) := Lib.hid (fun W h => ⟨cell_blk h.h5 0, cell_blk h.h5 1, cell_blk h.h5 2, Lib.hid h⟩)
            have HBr : Hid (Below w9.heap.size w9 w9.drew) := Lib.hid (Below.refl _ w9).drew
            clear hG
            go_upto_region 16 with fail
            go_cut [9, 10] from 90 to 10 (fun s9 s10 wx => s9 = .int .i64 L ∧ s10 = .int .i64 110 ∧ Hid (Below w.heap.size w wx))
            case first =>
              refine wp_region_held_drew (S := (fun W => W.cell? ⟨b + 1, 0, none⟩ = some (.int .u8 k) ∧ W.cell? ⟨b + 1, 1, none⟩ = some (.string sb) ∧ W.cell? ⟨b + 1, 2, none⟩ = some (.int .i64 z) ∧ Hid (Pb w W b #[.int .u8 p.op, .string p.nm, .slice an nn nc, .slice aa p.k ac] #[.int .u8 k, .string sb, .int .i64 z]))) (by kernel_rfl) ?_ (fun hHeld => ?_)
              · exact HSF.out _ (HP.out.keep (Below.refl _ w9).drew)
              refine wpAnyH_take (i := 1) (oi := _) (v := ?_) rfl (by kernel_rfl) (by kernel_rfl) (by kernel_rfl) (fun _ _ _ h => h) (Or.inl ⟨by kernel_rfl, ?_⟩) (by assumption) ?_
              rotate_left 1
              focus (intro wq hSw; (try dsimp only at hSw); obtain ⟨s0, s1, s2, s3⟩ := hSw; go_simp; (try with_reducible rfl); done)
              try simp only [List.getElem_toArray, List.getElem_cons_zero, List.getElem_cons_succ, Act.put, List.setIfInBounds_toArray, List.set_cons_zero, List.set_cons_succ]
              refine wpAnyH_take (i := 3) (oi := _) (v := ?_) rfl (by kernel_rfl) (by kernel_rfl) (by kernel_rfl) (fun _ _ _ h => h) (Or.inl ⟨by kernel_rfl, ?_⟩) (by assumption) ?_
              rotate_left 1
              focus (intro wq hSw; (try dsimp only at hSw); obtain ⟨s0, s1, s2, s3⟩ := hSw; go_simp; (try with_reducible rfl); done)
              try simp only [List.getElem_toArray, List.getElem_cons_zero, List.getElem_cons_succ, Act.put, List.setIfInBounds_toArray, List.set_cons_zero, List.set_cons_succ]
              refine wpAnyH_ready (rs := [0, 4]) (by kernel_rfl) (by simp) ?_
              refine AllReadyH.cons (o := _) rfl (fun K hK => ?_) (AllReadyH.cons (o := _) rfl (fun K hK => ?_) AllReadyH.nil)
              · rw [if_pos (by kernel_rfl)]
                go_simp
                have HO := Lib.hid (own_empty (B := w9.heap.size) (g := w9.heap.size) (w := (w9.drew.alloc (.cells #[] 47))) (by omega) (by have h := al_new w9.drew (.cells #[] 47); simpa using h) (Nat.le_trans HBr.out.size (by simp)))
                have HBr := Lib.hid (HBr.out.alloc HBr.out.size (.cells #[] 47))
                first | refine hK.out _ _ ?_ (fun hHeld => ?_) | (go_wp2_with fail; refine hK.out _ _ ?_ (fun hHeld => ?_))
                · exact HSF.out _ (HP.out.keep HBr.out)
                clear hK K
                try simp only [List.getElem_toArray, List.getElem_cons_zero, List.getElem_cons_succ, Act.put, List.setIfInBounds_toArray, List.set_cons_zero, List.set_cons_succ]
                refine wpAnyH_ready (rs := [2, 4]) (by kernel_rfl) (by simp) ?_
                refine AllReadyH.cons (o := _) rfl (fun K hK => ?_) (AllReadyH.cons (o := _) rfl (fun K hK => ?_) AllReadyH.nil)
                · refine stepQ rfl (.tmp 90) (.tmp 91) rfl w9.heap.size _ _ 0 [] rfl HO.out (some ⟨lb, lp, none⟩) L c lw rfl (HTK.out.keep HBr.out) (by omega) (by omega) HBr.out.size ?_
                  intro v4 w4 own gr
                  have HBr := Lib.hid (below_grown HBr.out gr (fun q e => (HO.out.lt q e).1) HBr.out.size)
                  have HO := Lib.hid own
                  clear own gr
                  first | refine hK.out _ _ ?_ (fun hHeld => ?_) | (go_wp2_with fail; refine hK.out _ _ ?_ (fun hHeld => ?_))
                  · exact HSF.out _ (HP.out.keep HBr.out)
                  clear hK K
                  try simp only [List.getElem_toArray, List.getElem_cons_zero, List.getElem_cons_succ, Act.put, List.setIfInBounds_toArray, List.set_cons_zero, List.set_cons_succ]
                  refine wpAnyH_ready (rs := [4]) (by kernel_rfl) (by simp) ?_
                  refine AllReadyH.cons (o := _) rfl (fun K hK => ?_) AllReadyH.nil
                  rw [if_pos (by kernel_rfl)]
                  go_simp
                  have HO := Lib.hid (HO.out.alloc (.cells #[.int .u8 k, .string sb, .int .i64 z] 47))
                  have HK : Hid ((w4.alloc (.cells #[.int .u8 k, .string sb, .int .i64 z] 47)).heap[w4.heap.size]? = some (.cells #[.int .u8 k, .string sb, .int .i64 z] 47 (0, 0))) := Lib.hid (by have h := al_new w4 (.cells #[.int .u8 k, .string sb, .int .i64 z] 47); simpa using h)
                  have HBr := Lib.hid (HBr.out.alloc HBr.out.size (.cells #[.int .u8 k, .string sb, .int .i64 z] 47))
                  first | refine hK.out _ _ ?_ (fun hHeld => ?_) | (go_wp2_with fail; refine hK.out _ _ ?_ (fun hHeld => ?_))
                  · exact HSF.out _ (HP.out.keep HBr.out)
                  clear hK K
                  try simp only [List.getElem_toArray, List.getElem_cons_zero, List.getElem_cons_succ, Act.put, List.setIfInBounds_toArray, List.set_cons_zero, List.set_cons_succ]
                  refine wpAnyH_ready (rs := [5]) (by kernel_rfl) (by simp) ?_
                  refine AllReadyH.cons (o := _) rfl (fun K hK => ?_) AllReadyH.nil
                  refine stepQ rfl (.tmp 92) (.tmp 94) rfl w9.heap.size _ _ (0 + L) ([] ++ lw) rfl HO.out (some ⟨w4.heap.size, 0, none⟩) 1 1 [(k, s, z)] rfl (tk_block [(k, s, z)] HK.out HTC.out rfl (by omega)) (by omega) (by omega) HBr.out.size ?_
                  intro v5 w5 own gr
                  obtain ⟨o3, c3, rfl, ht⟩ := own_tk2 own HNN.out
                  have HBr := Lib.hid (below_grown HBr.out gr (fun q e => (HO.out.lt q e).1) HBr.out.size)
                  have HXX := Lib.hid (HEX.out w5 o3 _ c3 _ (HP.out.bw.trans (HBr.out.mono HP.out.bw.size)) ht (tkb_app (tkb_app tkb_nil HWF.out.tkb) HTB.out))
                  rw [HNL.out, HMO.out.1, HMO.out.2, Nat.zero_add] at HXX
                  clear own gr ht HK HO
                  first | refine hK.out _ _ ?_ (fun hHeld => ?_) | (go_wp2_with fail; refine hK.out _ _ ?_ (fun hHeld => ?_))
                  · exact HSF.out _ (HP.out.keep HBr.out)
                  clear hK K
                  try simp only [List.getElem_toArray, List.getElem_cons_zero, List.getElem_cons_succ, Act.put, List.setIfInBounds_toArray, List.set_cons_zero, List.set_cons_succ]
                  refine wpAnyH_ready (rs := [6]) (by kernel_rfl) (by simp) ?_
                  refine AllReadyH.cons (o := _) rfl (fun K hK => ?_) AllReadyH.nil
                  rw [if_pos (by kernel_rfl)]
                  go_simp
                  (go_at_call 13; (with_reducible refine HXX.out.mono ?_); rintro e w6 ⟨z6, rfl, HB6, _⟩; have HBr := Lib.hid (HBr.out.trans (HB6.out.mono HBr.out.size)))
                  first | refine hK.out _ _ ?_ (fun hHeld => ?_) | (go_wp2_with fail; refine hK.out _ _ ?_ (fun hHeld => ?_))
                  · exact HSF.out _ (HP.out.keep HBr.out)
                  clear hK K
                  try simp only [List.getElem_toArray, List.getElem_cons_zero, List.getElem_cons_succ, Act.put, List.setIfInBounds_toArray, List.set_cons_zero, List.set_cons_succ]
                  refine wpAnyH_take (i := 7) (oi := _) (v := ?_) rfl (by kernel_rfl) (by kernel_rfl) (by kernel_rfl) (fun _ _ _ h => h) (Or.inl ⟨by kernel_rfl, ?_⟩) (by assumption) ?_
                  rotate_left 1
                  focus (intro wq hSw; (try dsimp only at hSw); obtain ⟨s0, s1, s2, s3⟩ := hSw; go_simp; (try with_reducible rfl); done)
                  try simp only [List.getElem_toArray, List.getElem_cons_zero, List.getElem_cons_succ, Act.put, List.setIfInBounds_toArray, List.set_cons_zero, List.set_cons_succ]
                  refine wpAnyH_take (i := 8) (oi := _) (v := ?_) rfl (by kernel_rfl) (by kernel_rfl) (by kernel_rfl) (fun _ _ _ h => h) (Or.inl ⟨by kernel_rfl, ?_⟩) (by assumption) ?_
                  rotate_left 1
                  focus (intro wq hSw; (try dsimp only at hSw); obtain ⟨s0, s1, s2, s3⟩ := hSw; go_simp; (try with_reducible rfl); done)
                  try simp only [List.getElem_toArray, List.getElem_cons_zero, List.getElem_cons_succ, Act.put, List.setIfInBounds_toArray, List.set_cons_zero, List.set_cons_succ]
                  refine wpAnyH_take (i := 9) (oi := _) (v := ?_) rfl (by kernel_rfl) (by kernel_rfl) (by kernel_rfl) (fun _ _ _ h => h) (Or.inl ⟨by kernel_rfl, ?_⟩) (by assumption) ?_
                  rotate_left 1
                  focus (intro wq hSw; (try dsimp only at hSw); obtain ⟨s0, s1, s2, s3⟩ := hSw; go_simp; (try with_reducible rfl); done)
                  try simp only [List.getElem_toArray, List.getElem_cons_zero, List.getElem_cons_succ, Act.put, List.setIfInBounds_toArray, List.set_cons_zero, List.set_cons_succ]
                  refine wpAnyH_take (i := 10) (oi := _) (v := ?_) rfl (by kernel_rfl) (by kernel_rfl) (by kernel_rfl) (fun _ _ _ h => h) (Or.inl ⟨by kernel_rfl, ?_⟩) (by assumption) ?_
                  rotate_left 1
                  focus (intro wq hSw; (try dsimp only at hSw); obtain ⟨s0, s1, s2, s3⟩ := hSw; go_simp; (try with_reducible rfl); done)
                  try simp only [List.getElem_toArray, List.getElem_cons_zero, List.getElem_cons_succ, Act.put, List.setIfInBounds_toArray, List.set_cons_zero, List.set_cons_succ]
                  refine wpAnyH_take (i := 11) (oi := _) (v := ?_) rfl (by kernel_rfl) (by kernel_rfl) (by kernel_rfl) (fun _ _ _ h => h) (Or.inl ⟨by kernel_rfl, ?_⟩) (by assumption) ?_
                  rotate_left 1
                  focus (intro wq hSw; (try dsimp only at hSw); obtain ⟨s0, s1, s2, s3⟩ := hSw; go_simp; (try with_reducible rfl); done)
                  try simp only [List.getElem_toArray, List.getElem_cons_zero, List.getElem_cons_succ, Act.put, List.setIfInBounds_toArray, List.set_cons_zero, List.set_cons_succ]
                  refine wpAnyH_take (i := 12) (oi := _) (v := ?_) rfl (by kernel_rfl) (by kernel_rfl) (by kernel_rfl) (fun _ _ _ h => h) (Or.inl ⟨by kernel_rfl, ?_⟩) (by assumption) ?_
                  rotate_left 1
                  focus (intro wq hSw; (try dsimp only at hSw); obtain ⟨s0, s1, s2, s3⟩ := hSw; go_simp; (try with_reducible rfl); done)
                  try simp only [List.getElem_toArray, List.getElem_cons_zero, List.getElem_cons_succ, Act.put, List.setIfInBounds_toArray, List.set_cons_zero, List.set_cons_succ]
                  refine wpAnyH_done (by kernel_rfl) ?_ _
                  have HTW := Lib.hid (HP.out.bw.trans (HBr.out.mono HP.out.bw.size))
                  go_wp2_with fail
                  go_meet
                  case rel => exact ⟨rfl, rfl, HTW⟩
                · rw [if_pos (by kernel_rfl)]
                  go_simp
                  have HO := Lib.hid (HO.out.alloc (.cells #[.int .u8 k, .string sb, .int .i64 z] 47))
                  have HK : Hid (((w9.drew.alloc (.cells #[] 47)).alloc (.cells #[.int .u8 k, .string sb, .int .i64 z] 47)).heap[w9.heap.size + 1]? = some (.cells #[.int .u8 k, .string sb, .int .i64 z] 47 (0, 0))) := Lib.hid (by have h := al_new (w9.drew.alloc (.cells #[] 47)) (.cells #[.int .u8 k, .string sb, .int .i64 z] 47); simpa using h)
                  have HBr := Lib.hid (HBr.out.alloc HBr.out.size (.cells #[.int .u8 k, .string sb, .int .i64 z] 47))
                  first | refine hK.out _ _ ?_ (fun hHeld => ?_) | (go_wp2_with fail; refine hK.out _ _ ?_ (fun hHeld => ?_))
                  · exact HSF.out _ (HP.out.keep HBr.out)
                  clear hK K
                  try simp only [List.getElem_toArray, List.getElem_cons_zero, List.getElem_cons_succ, Act.put, List.setIfInBounds_toArray, List.set_cons_zero, List.set_cons_succ]
                  refine wpAnyH_ready (rs := [2]) (by kernel_rfl) (by simp) ?_
                  refine AllReadyH.cons (o := _) rfl (fun K hK => ?_) AllReadyH.nil
                  refine stepQ rfl (.tmp 90) (.tmp 91) rfl w9.heap.size _ _ 0 [] rfl HO.out (some ⟨lb, lp, none⟩) L c lw rfl (HTK.out.keep HBr.out) (by omega) (by omega) HBr.out.size ?_
                  intro v4 w4 own gr
                  have HK := Lib.hid ((gr.block _ (Array.getElem?_eq_some_iff.1 HK.out).1 (by intro e; have e : w9.heap.size + 1 = w9.heap.size := Option.some.inj e; omega)).trans HK.out)
                  have HBr := Lib.hid (below_grown HBr.out gr (fun q e => (HO.out.lt q e).1) HBr.out.size)
                  have HO := Lib.hid own
                  clear own gr
                  first | refine hK.out _ _ ?_ (fun hHeld => ?_) | (go_wp2_with fail; refine hK.out _ _ ?_ (fun hHeld => ?_))
                  · exact HSF.out _ (HP.out.keep HBr.out)
                  clear hK K
                  try simp only [List.getElem_toArray, List.getElem_cons_zero, List.getElem_cons_succ, Act.put, List.setIfInBounds_toArray, List.set_cons_zero, List.set_cons_succ]
                  refine wpAnyH_ready (rs := [5]) (by kernel_rfl) (by simp) ?_
                  refine AllReadyH.cons (o := _) rfl (fun K hK => ?_) AllReadyH.nil
                  refine stepQ rfl (.tmp 92) (.tmp 94) rfl w9.heap.size _ _ (0 + L) ([] ++ lw) rfl HO.out (some ⟨w9.heap.size + 1, 0, none⟩) 1 1 [(k, s, z)] rfl (tk_block [(k, s, z)] HK.out HTC.out rfl (by omega)) (by omega) (by omega) HBr.out.size ?_
                  intro v5 w5 own gr
                  obtain ⟨o3, c3, rfl, ht⟩ := own_tk2 own HNN.out
                  have HBr := Lib.hid (below_grown HBr.out gr (fun q e => (HO.out.lt q e).1) HBr.out.size)
                  have HXX := Lib.hid (HEX.out w5 o3 _ c3 _ (HP.out.bw.trans (HBr.out.mono HP.out.bw.size)) ht (tkb_app (tkb_app tkb_nil HWF.out.tkb) HTB.out))
                  rw [HNL.out, HMO.out.1, HMO.out.2, Nat.zero_add] at HXX
                  clear own gr ht HK HO
                  first | refine hK.out _ _ ?_ (fun hHeld => ?_) | (go_wp2_with fail; refine hK.out _ _ ?_ (fun hHeld => ?_))
                  · exact HSF.out _ (HP.out.keep HBr.out)
                  clear hK K
                  try simp only [List.getElem_toArray, List.getElem_cons_zero, List.getElem_cons_succ, Act.put, List.setIfInBounds_toArray, List.set_cons_zero, List.set_cons_succ]
                  refine wpAnyH_ready (rs := [6]) (by kernel_rfl) (by simp) ?_
                  refine AllReadyH.cons (o := _) rfl (fun K hK => ?_) AllReadyH.nil
                  rw [if_pos (by kernel_rfl)]
                  go_simp
                  (go_at_call 13; (with_reducible refine HXX.out.mono ?_); rintro e w6 ⟨z6, rfl, HB6, _⟩; have HBr := Lib.hid (HBr.out.trans (HB6.out.mono HBr.out.size)))
                  first | refine hK.out _ _ ?_ (fun hHeld => ?_) | (go_wp2_with fail; refine hK.out _ _ ?_ (fun hHeld => ?_))
                  · exact HSF.out _ (HP.out.keep HBr.out)
                  clear hK K
                  try simp only [List.getElem_toArray, List.getElem_cons_zero, List.getElem_cons_succ, Act.put, List.setIfInBounds_toArray, List.set_cons_zero, List.set_cons_succ]
                  refine wpAnyH_take (i := 7) (oi := _) (v := ?_) rfl (by kernel_rfl) (by kernel_rfl) (by kernel_rfl) (fun _ _ _ h => h) (Or.inl ⟨by kernel_rfl, ?_⟩) (by assumption) ?_
                  rotate_left 1
                  focus (intro wq hSw; (try dsimp only at hSw); obtain ⟨s0, s1, s2, s3⟩ := hSw; go_simp; (try with_reducible rfl); done)
                  try simp only [List.getElem_toArray, List.getElem_cons_zero, List.getElem_cons_succ, Act.put, List.setIfInBounds_toArray, List.set_cons_zero, List.set_cons_succ]
                  refine wpAnyH_take (i := 8) (oi := _) (v := ?_) rfl (by kernel_rfl) (by kernel_rfl) (by kernel_rfl) (fun _ _ _ h => h) (Or.inl ⟨by kernel_rfl, ?_⟩) (by assumption) ?_
                  rotate_left 1
                  focus (intro wq hSw; (try dsimp only at hSw); obtain ⟨s0, s1, s2, s3⟩ := hSw; go_simp; (try with_reducible rfl); done)
                  try simp only [List.getElem_toArray, List.getElem_cons_zero, List.getElem_cons_succ, Act.put, List.setIfInBounds_toArray, List.set_cons_zero, List.set_cons_succ]
                  refine wpAnyH_take (i := 9) (oi := _) (v := ?_) rfl (by kernel_rfl) (by kernel_rfl) (by kernel_rfl) (fun _ _ _ h => h) (Or.inl ⟨by kernel_rfl, ?_⟩) (by assumption) ?_
                  rotate_left 1
                  focus (intro wq hSw; (try dsimp only at hSw); obtain ⟨s0, s1, s2, s3⟩ := hSw; go_simp; (try with_reducible rfl); done)
                  try simp only [List.getElem_toArray, List.getElem_cons_zero, List.getElem_cons_succ, Act.put, List.setIfInBounds_toArray, List.set_cons_zero, List.set_cons_succ]
                  refine wpAnyH_take (i := 10) (oi := _) (v := ?_) rfl (by kernel_rfl) (by kernel_rfl) (by kernel_rfl) (fun _ _ _ h => h) (Or.inl ⟨by kernel_rfl, ?_⟩) (by assumption) ?_
                  rotate_left 1
                  focus (intro wq hSw; (try dsimp only at hSw); obtain ⟨s0, s1, s2, s3⟩ := hSw; go_simp; (try with_reducible rfl); done)
                  try simp only [List.getElem_toArray, List.getElem_cons_zero, List.getElem_cons_succ, Act.put, List.setIfInBounds_toArray, List.set_cons_zero, List.set_cons_succ]
                  refine wpAnyH_take (i := 11) (oi := _) (v := ?_) rfl (by kernel_rfl) (by kernel_rfl) (by kernel_rfl) (fun _ _ _ h => h) (Or.inl ⟨by kernel_rfl, ?_⟩) (by assumption) ?_
                  rotate_left 1
                  focus (intro wq hSw; (try dsimp only at hSw); obtain ⟨s0, s1, s2, s3⟩ := hSw; go_simp; (try with_reducible rfl); done)
                  try simp only [List.getElem_toArray, List.getElem_cons_zero, List.getElem_cons_succ, Act.put, List.setIfInBounds_toArray, List.set_cons_zero, List.set_cons_succ]
                  refine wpAnyH_take (i := 12) (oi := _) (v := ?_) rfl (by kernel_rfl) (by kernel_rfl) (by kernel_rfl) (fun _ _ _ h => h) (Or.inl ⟨by kernel_rfl, ?_⟩) (by assumption) ?_
                  rotate_left 1
                  focus (intro wq hSw; (try dsimp only at hSw); obtain ⟨s0, s1, s2, s3⟩ := hSw; go_simp; (try with_reducible rfl); done)
                  try simp only [List.getElem_toArray, List.getElem_cons_zero, List.getElem_cons_succ, Act.put, List.setIfInBounds_toArray, List.set_cons_zero, List.set_cons_succ]
                  refine wpAnyH_done (by kernel_rfl) ?_ _
                  have HTW := Lib.hid (HP.out.bw.trans (HBr.out.mono HP.out.bw.size))
                  go_wp2_with fail
                  go_meet
                  case rel => exact ⟨rfl, rfl, HTW⟩
              · rw [if_pos (by kernel_rfl)]
                go_simp
                have HK : Hid ((w9.drew.alloc (.cells #[.int .u8 k, .string sb, .int .i64 z] 47)).heap[w9.heap.size]? = some (.cells #[.int .u8 k, .string sb, .int .i64 z] 47 (0, 0))) := Lib.hid (by have h := al_new w9.drew (.cells #[.int .u8 k, .string sb, .int .i64 z] 47); simpa using h)
                have HBr := Lib.hid (HBr.out.alloc HBr.out.size (.cells #[.int .u8 k, .string sb, .int .i64 z] 47))
                first | refine hK.out _ _ ?_ (fun hHeld => ?_) | (go_wp2_with fail; refine hK.out _ _ ?_ (fun hHeld => ?_))
                · exact HSF.out _ (HP.out.keep HBr.out)
                clear hK K
                try simp only [List.getElem_toArray, List.getElem_cons_zero, List.getElem_cons_succ, Act.put, List.setIfInBounds_toArray, List.set_cons_zero, List.set_cons_succ]
                refine wpAnyH_ready (rs := [0]) (by kernel_rfl) (by simp) ?_
                refine AllReadyH.cons (o := _) rfl (fun K hK => ?_) AllReadyH.nil
                rw [if_pos (by kernel_rfl)]
                go_simp
                have HO := Lib.hid (own_empty (B := w9.heap.size) (g := w9.heap.size + 1) (w := ((w9.drew.alloc (.cells #[.int .u8 k, .string sb, .int .i64 z] 47)).alloc (.cells #[] 47))) (by omega) (by have h := al_new (w9.drew.alloc (.cells #[.int .u8 k, .string sb, .int .i64 z] 47)) (.cells #[] 47); simpa using h) (Nat.le_trans HBr.out.size (by simp)))
                have HK := Lib.hid ((al_old (w9.drew.alloc (.cells #[.int .u8 k, .string sb, .int .i64 z] 47)) (.cells #[] 47) (Array.getElem?_eq_some_iff.1 HK.out).1).trans HK.out)
                have HBr := Lib.hid (HBr.out.alloc HBr.out.size (.cells #[] 47))
                first | refine hK.out _ _ ?_ (fun hHeld => ?_) | (go_wp2_with fail; refine hK.out _ _ ?_ (fun hHeld => ?_))
                · exact HSF.out _ (HP.out.keep HBr.out)
                clear hK K
                try simp only [List.getElem_toArray, List.getElem_cons_zero, List.getElem_cons_succ, Act.put, List.setIfInBounds_toArray, List.set_cons_zero, List.set_cons_succ]
                refine wpAnyH_ready (rs := [2]) (by kernel_rfl) (by simp) ?_
                refine AllReadyH.cons (o := _) rfl (fun K hK => ?_) AllReadyH.nil
                refine stepQ rfl (.tmp 90) (.tmp 91) rfl w9.heap.size _ _ 0 [] rfl HO.out (some ⟨lb, lp, none⟩) L c lw rfl (HTK.out.keep HBr.out) (by omega) (by omega) HBr.out.size ?_
                intro v4 w4 own gr
                have HK := Lib.hid ((gr.block _ (Array.getElem?_eq_some_iff.1 HK.out).1 (by intro e; have e : w9.heap.size = w9.heap.size + 1 := Option.some.inj e; omega)).trans HK.out)
                have HBr := Lib.hid (below_grown HBr.out gr (fun q e => (HO.out.lt q e).1) HBr.out.size)
                have HO := Lib.hid own
                clear own gr
                first | refine hK.out _ _ ?_ (fun hHeld => ?_) | (go_wp2_with fail; refine hK.out _ _ ?_ (fun hHeld => ?_))
                · exact HSF.out _ (HP.out.keep HBr.out)
                clear hK K
                try simp only [List.getElem_toArray, List.getElem_cons_zero, List.getElem_cons_succ, Act.put, List.setIfInBounds_toArray, List.set_cons_zero, List.set_cons_succ]
                refine wpAnyH_ready (rs := [5]) (by kernel_rfl) (by simp) ?_
                refine AllReadyH.cons (o := _) rfl (fun K hK => ?_) AllReadyH.nil
                refine stepQ rfl (.tmp 92) (.tmp 94) rfl w9.heap.size _ _ (0 + L) ([] ++ lw) rfl HO.out (some ⟨w9.heap.size, 0, none⟩) 1 1 [(k, s, z)] rfl (tk_block [(k, s, z)] HK.out HTC.out rfl (by omega)) (by omega) (by omega) HBr.out.size ?_
                intro v5 w5 own gr
                obtain ⟨o3, c3, rfl, ht⟩ := own_tk2 own HNN.out
                have HBr := Lib.hid (below_grown HBr.out gr (fun q e => (HO.out.lt q e).1) HBr.out.size)
                have HXX := Lib.hid (HEX.out w5 o3 _ c3 _ (HP.out.bw.trans (HBr.out.mono HP.out.bw.size)) ht (tkb_app (tkb_app tkb_nil HWF.out.tkb) HTB.out))
                rw [HNL.out, HMO.out.1, HMO.out.2, Nat.zero_add] at HXX
                clear own gr ht HK HO
                first | refine hK.out _ _ ?_ (fun hHeld => ?_) | (go_wp2_with fail; refine hK.out _ _ ?_ (fun hHeld => ?_))
                · exact HSF.out _ (HP.out.keep HBr.out)
                clear hK K
                try simp only [List.getElem_toArray, List.getElem_cons_zero, List.getElem_cons_succ, Act.put, List.setIfInBounds_toArray, List.set_cons_zero, List.set_cons_succ]
                refine wpAnyH_ready (rs := [6]) (by kernel_rfl) (by simp) ?_
                refine AllReadyH.cons (o := _) rfl (fun K hK => ?_) AllReadyH.nil
                rw [if_pos (by kernel_rfl)]
                go_simp
                (go_at_call 13; (with_reducible refine HXX.out.mono ?_); rintro e w6 ⟨z6, rfl, HB6, _⟩; have HBr := Lib.hid (HBr.out.trans (HB6.out.mono HBr.out.size)))
                first | refine hK.out _ _ ?_ (fun hHeld => ?_) | (go_wp2_with fail; refine hK.out _ _ ?_ (fun hHeld => ?_))
                · exact HSF.out _ (HP.out.keep HBr.out)
                clear hK K
                try simp only [List.getElem_toArray, List.getElem_cons_zero, List.getElem_cons_succ, Act.put, List.setIfInBounds_toArray, List.set_cons_zero, List.set_cons_succ]
                refine wpAnyH_take (i := 7) (oi := _) (v := ?_) rfl (by kernel_rfl) (by kernel_rfl) (by kernel_rfl) (fun _ _ _ h => h) (Or.inl ⟨by kernel_rfl, ?_⟩) (by assumption) ?_
                rotate_left 1
                focus (intro wq hSw; (try dsimp only at hSw); obtain ⟨s0, s1, s2, s3⟩ := hSw; go_simp; (try with_reducible rfl); done)
                try simp only [List.getElem_toArray, List.getElem_cons_zero, List.getElem_cons_succ, Act.put, List.setIfInBounds_toArray, List.set_cons_zero, List.set_cons_succ]
                refine wpAnyH_take (i := 8) (oi := _) (v := ?_) rfl (by kernel_rfl) (by kernel_rfl) (by kernel_rfl) (fun _ _ _ h => h) (Or.inl ⟨by kernel_rfl, ?_⟩) (by assumption) ?_
                rotate_left 1
                focus (intro wq hSw; (try dsimp only at hSw); obtain ⟨s0, s1, s2, s3⟩ := hSw; go_simp; (try with_reducible rfl); done)
                try simp only [List.getElem_toArray, List.getElem_cons_zero, List.getElem_cons_succ, Act.put, List.setIfInBounds_toArray, List.set_cons_zero, List.set_cons_succ]
                refine wpAnyH_take (i := 9) (oi := _) (v := ?_) rfl (by kernel_rfl) (by kernel_rfl) (by kernel_rfl) (fun _ _ _ h => h) (Or.inl ⟨by kernel_rfl, ?_⟩) (by assumption) ?_
                rotate_left 1
                focus (intro wq hSw; (try dsimp only at hSw); obtain ⟨s0, s1, s2, s3⟩ := hSw; go_simp; (try with_reducible rfl); done)
                try simp only [List.getElem_toArray, List.getElem_cons_zero, List.getElem_cons_succ, Act.put, List.setIfInBounds_toArray, List.set_cons_zero, List.set_cons_succ]
                refine wpAnyH_take (i := 10) (oi := _) (v := ?_) rfl (by kernel_rfl) (by kernel_rfl) (by kernel_rfl) (fun _ _ _ h => h) (Or.inl ⟨by kernel_rfl, ?_⟩) (by assumption) ?_
                rotate_left 1
                focus (intro wq hSw; (try dsimp only at hSw); obtain ⟨s0, s1, s2, s3⟩ := hSw; go_simp; (try with_reducible rfl); done)
                try simp only [List.getElem_toArray, List.getElem_cons_zero, List.getElem_cons_succ, Act.put, List.setIfInBounds_toArray, List.set_cons_zero, List.set_cons_succ]
                refine wpAnyH_take (i := 11) (oi := _) (v := ?_) rfl (by kernel_rfl) (by kernel_rfl) (by kernel_rfl) (fun _ _ _ h => h) (Or.inl ⟨by kernel_rfl, ?_⟩) (by assumption) ?_
                rotate_left 1
                focus (intro wq hSw; (try dsimp only at hSw); obtain ⟨s0, s1, s2, s3⟩ := hSw; go_simp; (try with_reducible rfl); done)
                try simp only [List.getElem_toArray, List.getElem_cons_zero, List.getElem_cons_succ, Act.put, List.setIfInBounds_toArray, List.set_cons_zero, List.set_cons_succ]
                refine wpAnyH_take (i := 12) (oi := _) (v := ?_) rfl (by kernel_rfl) (by kernel_rfl) (by kernel_rfl) (fun _ _ _ h => h) (Or.inl ⟨by kernel_rfl, ?_⟩) (by assumption) ?_
                rotate_left 1
                focus (intro wq hSw; (try dsimp only at hSw); obtain ⟨s0, s1, s2, s3⟩ := hSw; go_simp; (try with_reducible rfl); done)
                try simp only [List.getElem_toArray, List.getElem_cons_zero, List.getElem_cons_succ, Act.put, List.setIfInBounds_toArray, List.set_cons_zero, List.set_cons_succ]
                refine wpAnyH_done (by kernel_rfl) ?_ _
                have HTW := Lib.hid (HP.out.bw.trans (HBr.out.mono HP.out.bw.size))
                go_wp2_with fail
                go_meet
                case rel => exact ⟨rfl, rfl, HTW⟩
            case rest =>
              obtain ⟨rfl, rfl, HBX⟩ := hcut
              have HX := Lib.hid (HAW.out _ HBX.out)
              go_wp2_with fail
              (with_reducible refine HX.out.mono ?_)
              rintro e w10 ⟨rfl, q⟩
              go_wp2
              go_returns
              exact ⟨rfl, HBX.out.trans (q.mono HBX.out.size)⟩
          · have HX := Lib.hid (HAW.out _ HP.out.bw)
            go_wp2_with fail
            (with_reducible refine HX.out.mono ?_)
            rintro e w10 ⟨rfl, q⟩
            go_wp2
            go_returns
            exact ⟨rfl, HP.out.bw.trans (q.mono HP.out.bw.size)⟩
end Go.Proofs.YtllhcpkpbipjlaaDoor
