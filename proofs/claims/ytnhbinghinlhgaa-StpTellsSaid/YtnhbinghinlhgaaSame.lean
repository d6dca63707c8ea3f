/- StpSame: the law. -/
import Derived.Test.YtnhbinghinlhgaaLower
namespace Go.Proofs.Ytnhbinghinlhgaa
set_option linter.unusedVariables false
set_option linter.unusedSimpArgs false
open Go.ChangeShapes Go.WideShapes Go.ChangeAt Go.RowKit

theorem lowest_fit {n : Nat} {Q : Int} {C : Mat} (hQ : 0 ≤ Q) (h : Within n Q C) (j : Nat) (hj : j < n) : ∀ m, m ≤ n → -Q ≤ lowest C j m
  | 0, _ => by simp only [lowest]; omega
  | m + 1, hm => by
    have ih := lowest_fit hQ h j hj m (by omega)
    have wb := h m j (by omega) hj
    simp only [lowest]
    split
    · rename_i a e
      rw [e] at wb
      have : -Q ≤ a := wb.1
      omega
    · exact ih
/-- Numbers that came in. -/
structure TickIs (w : World) (ao : Option Addr) (L cap : Nat) (t : Nat → Int) : Prop where
  le : L ≤ cap
  top : cap ≤ 9223372036854775807
  bare : ao = none → L = 0 ∧ cap = 0
  ints : 0 < L → ∃ tb tq, ao = some ⟨tb, tq, none⟩ ∧ IntsAt w tb tq L t
theorem TickIs.keep {w w' : World} {ao : Option Addr} {L cap : Nat} {t : Nat → Int} (h : TickIs w ao L cap t) (b : Below w.heap.size w w') : TickIs w' ao L cap t :=
  ⟨h.le, h.top, h.bare, fun l => by obtain ⟨tb, tq, e, k⟩ := h.ints l; exact ⟨tb, tq, e, k.keep b⟩⟩
theorem TickIs.cells {w : World} {ao : Option Addr} {L cap : Nat} {t : Nat → Int} (h : TickIs w ao L cap t) (b : Addr) (e : ao = some b) (j : Nat) (u : Value) (hu : ((List.range L).map (fun j => Value.int .i64 (t j)))[j]? = some u) : w.cell? (b.add j) = some u := by
  have hj : j < L := by
    have := (List.getElem?_eq_some_iff.1 hu).1
    simpa using this
  rw [List.getElem?_eq_getElem (by simpa using hj)] at hu
  simp at hu
  obtain ⟨tb, tq, e', k⟩ := h.ints (by omega)
  rw [e] at e'
  cases e'
  rw [add_off, ← hu]
  exact k.cell j hj
theorem tick_more {w : World} {B L : Nat} {v : Value} {t : Nat → Int} (h : w.ownsRow B 3 1 v (L + 1) ((List.range L).map (fun j => Value.int .i64 (t j)) ++ [.int .i64 0])) (hf : ∀ j, j < L → I64 (t j)) :
    ∃ g cap, v = .slice (some ⟨g, 0, none⟩) (L + 1) cap ∧ TickIs w (some ⟨g, 0, none⟩) (L + 1) cap (fun j => if j < L then t j else 0) := by
  have hc := h
  rcases h.2 with ⟨_, h0⟩ | ⟨g, cap, cur, rfl, h2, h3, h4, h5, h6⟩
  · omega
  · refine ⟨g, cap, rfl, h4, by unfold maxLen at h5; omega, (by intro e; cases e), fun _ => ⟨g, 0, rfl, fun j hj => ?_, fun j hj => ?_⟩⟩
    · have := hc.cells (g := g) rfl j (.int .i64 (if j < L then t j else 0)) (by
        by_cases q : j < L
        · rw [List.getElem?_append_left (by simpa using q)]; simp [q]
        · obtain rfl : j = L := by omega
          rw [List.getElem?_append_right (by simp)]; simp)
      rw [add_off] at this
      exact this
    · by_cases q : j < L
      · rw [if_pos q]; exact hf j q
      · rw [if_neg q]; exact ⟨by decide, by decide⟩
theorem TickIs.fit {w : World} {ao : Option Addr} {L cap : Nat} {t : Nat → Int} (h : TickIs w ao L cap t) (j : Nat) (hj : j < L) : I64 (t j) := by
  obtain ⟨tb, tq, e, k⟩ := h.ints (by omega)
  exact k.fit j hj
/-- The numbers of the call's own, as they are made. -/
structure LowAt (w : World) (x n : Nat) (t : Nat → Int) : Prop where
  cell : ∀ k, k < n → w.cell? ⟨x, k, none⟩ = some (.int .i64 (t k))
  free : ∀ k, w.frozen? ⟨x, k, none⟩ = false
theorem LowAt.ext {w : World} {x n : Nat} {t u : Nat → Int} (h : LowAt w x n t) (e : ∀ k, k < n → t k = u k) : LowAt w x n u := ⟨fun k hk => by rw [← e k hk]; exact h.cell k hk, h.free⟩
theorem LowAt.put {w : World} {x n : Nat} {t u : Nat → Int} (h : LowAt w x n t) (i : Nat) (hi : i < n) (a : Int) (e : ∀ k, k < n → u k = if k = i then a else t k) : LowAt (w.setCell ⟨x, i, none⟩ (.int .i64 a)) x n u := by
  refine ⟨fun k hk => ?_, fun k => by rw [World.frozen?_setCell]; exact h.free k⟩
  rw [e k hk]
  by_cases q : k = i
  · subst q; rw [if_pos rfl]; exact cell_same (h.cell k hk)
  · rw [if_neg q, cell_other (fun e => q (by cases e; rfl))]; exact h.cell k hk
theorem LowAt.drew {w : World} {x n : Nat} {t : Nat → Int} (h : LowAt w x n t) (m : Nat) : LowAt (w.drewN m) x n t := ⟨h.cell, h.free⟩
theorem low_zero {w w1 : World} {n : Nat} (h : w1.ownsRow w.heap.size 3 1 (.slice (some ⟨w.heap.size, 0, none⟩) n n) n (madeCells (Value.int .i64 0).cells (n * 1)).toList) : LowAt w1 w.heap.size n (fun _ => 0) := by
  have hc := h
  refine ⟨fun t ht => ?_, fun t => ?_⟩
  · have := hc.cells (g := w.heap.size) rfl t (.int .i64 0) (by
      rw [List.getElem?_eq_getElem (by simp [size_madeCells]; exact ht)]
      simp [madeCells, Value.cells, Nat.mod_one])
    rw [add_off, Nat.zero_add] at this
    exact this
  · rcases h.2 with ⟨h1, _⟩ | ⟨g', cap', cur, h1, h2, h3, h4, h5, h6⟩
    · cases h1
    · cases h1
      unfold World.frozen?
      simp [h3]
/-- The lowest numbers, made up to the j-th of the i-th. -/
def sofar (C : Mat) (n i j k : Nat) : Int := if k < i then lowest C k n else if k = i then lowest C k j else 0
/-- What a closure says. -/
def CloseSaid (w w' : World) (n : Nat) (v : Value) (ok : Bool) (oc : Option Mat) : Prop := match oc with
  | none => v = .slice none 0 0 ∧ ok = false
  | some C => ok = true ∧ ∃ g o k b p c, v = .slice (some ⟨g, o, none⟩) n k ∧ n ≤ k ∧ k ≤ 9223372036854775807 ∧ NetOwn w' w.heap.size g o n b p c C
def lenV : Value → Nat
  | .slice _ l _ => l
  | _ => 0
theorem info3 : (Try.prog.info? 3).map (fun i => (i.zero, i.size, i.bytes)) = some (some (.int .i64 0), 1, 8) := by kernel_rfl
theorem close_said {w : World} {n g o k : Nat} {oc : Option Mat} (h : Calls Try.prog 17 #[.slice (some ⟨g, o, none⟩) n k] w fun e w' => CloseIs w w' n e oc) :
    Calls Try.prog 17 #[.slice (some ⟨g, o, none⟩) n k] w fun e w' => ∃ v ok, e = .returned (.tuple #[v, .bool ok, .int .i64 0]) ∧ Hid (CloseSaid w w' n v ok oc) ∧ Hid (Below w.heap.size w w') := by
  refine h.mono fun e w' h => ?_
  cases oc with
  | none =>
    obtain ⟨rfl, hb⟩ : e = .returned (.tuple #[.slice none 0 0, .bool false, .int .i64 0]) ∧ Hid (Below w.heap.size w w') := h
    exact ⟨_, _, rfl, Lib.hid ⟨rfl, rfl⟩, hb⟩
  | some C =>
    obtain ⟨g', o', k', b, p, c, rfl, h1, h2, h3, hb⟩ : ∃ g o k b p c, e = .returned (.tuple #[.slice (some ⟨g, o, none⟩) n k, .bool true, .int .i64 0]) ∧ n ≤ k ∧ k ≤ 9223372036854775807 ∧ Hid (NetOwn w' w.heap.size g o n b p c C) ∧ Hid (Below w.heap.size w w') := h
    exact ⟨_, _, rfl, Lib.hid ⟨rfl, g', o', k', b, p, c, rfl, h1, h2, h3.out⟩, hb⟩
theorem box_one (w : World) (x : Value) (t : TypeId) : ∀ (j : Nat) (u : Value), [x][j]? = some u → (w.alloc (.cells #[x] t)).cell? ((⟨w.heap.size, 0, none⟩ : Addr).add j) = some u := by
  intro j u h
  have q : (w.alloc (.cells #[x] t)).heap[w.heap.size]? = some (.cells #[x] t) := by
    show (w.heap.push _)[w.heap.size]? = _
    simp
  cases j with
  | zero => simp at h; subst h; rw [add_off]; unfold World.cell?; rw [q]; rfl
  | succ j => simp at h
theorem sat_bool (n : Nat) (t : Nat → Int) (M : Mat) : ∃ r : Bool, (r = true ↔ Sat n t M) := by
  by_cases h : Sat n t M
  · exact ⟨true, by simp [h]⟩
  · exact ⟨false, by simp [h]⟩

set_option maxRecDepth 100000 in
set_option maxHeartbeats 8000000 in
theorem same_law (a n : Nat) (ha : a < 256) (hn : n = 1 + a % 24) (v : Value) (ao : Option Addr) (L cap : Nat) (t : Nat → Int) (w : World) (hv : RawIn w v) (ht : TickIs w ao L cap t) :
    Calls Try.prog 4 #[.int .u8 a, v, .slice ao L cap] w fun e w' => e = .returned (.bool true) ∧ Below w.heap.size w w' := by
  have BT := Lib.hid (built_any a n ha hn v w hv)
  have HT0 := Lib.hid ht
  have h0 : 0 < n := by omega
  have hn24 : n ≤ 24 := by omega
  have n7 : ((n : Int) == 0) = false := by simp; omega
  obtain ⟨i0, hi, hz0, hz1, hz2⟩ := info_parts info3
  have HI := Lib.hid hi
  have HZ0 := Lib.hid hz0
  have HZ1 := Lib.hid hz1
  have HZ2 := Lib.hid hz2
  clear ha hn hv ht hi hz0 hz1 hz2
  go_enter Try.func4, Try.ntmps4
  go_upto_region 4 with (go_at_call 20; (with_reducible refine (BT.out).mono ?_); rintro e w1 ⟨M, hM, g, o, k, b, p, c, rfl, hk, hl, HN, HB⟩; have HM := Lib.hid hM; clear hM)
  have CL := Lib.hid (close_said (close_1000 g o n k b p c M h0 hn24 hk hl (wide_1000 HM.out) w1 HN.out.net))
  clear BT
  go_wp2_with (go_at_call 17; (with_reducible refine (CL.out).mono ?_); rintro e w2 ⟨v8, ok, rfl, HC, HB2⟩)
  clear CL
  have N1 := Lib.hid (HN.out.keep HB2.out)
  have HB3 := Lib.hid (HB.out.trans (HB2.out.mono HB.out.size))
  have HT1 := Lib.hid (HT0.out.keep HB3.out)
  clear HT0
  go_loopw [2] (fun v wr => ∃ ao L cap t, v = .slice ao L cap ∧ Hid (TickIs wr ao L cap t) ∧ Hid (Below w2.heap.size w2 wr)) (fun v _ => n - lenV v)
  case atStart => exact ⟨_, _, _, _, rfl, HT1, Lib.hid (Below.refl _ _)⟩
  case round =>
    clear HT1
    clear ao L cap t
    obtain ⟨ao, L, cap, t, rfl, HT, HR⟩ := hrel
    by_cases llt : L < n
    · have l1 := HT.out.le
      have l2 := HT.out.top
      have G1 := Lib.hid (fun (e : ao = none) => ((HT.out.bare e)))
      have G2 := Lib.hid (fun (q : Addr) (e : ao = some q) (j : Nat) (u : Value) (hu : ((List.range L).map (fun j => Value.int .i64 (t j)))[j]? = some u) => (HT.out.keep ((Below.refl _ wr).alloc (Nat.le_refl _) (.cells #[.int .i64 0] 3))).cells q e j u hu)
      go_wp2_with (at_builtin; refine wpList_append_grows _ rfl _ _ 23 rfl 3 i0 (.int .i64 0) 1 8 Try.underlying23 HI.out HZ0.out HZ1.out HZ2.out rfl (by decide) ao L L ((List.range L).map (fun j => Value.int .i64 (t j))) (by rfl) (fun e => ⟨(G1.out e).1, (G1.out e).1⟩) (by simp) G2.out ⟨wr.heap.size, 0, none⟩ 1 1 [.int .i64 0] (by rfl) rfl (box_one _ _ _) (by intro z hz; simp at hz; subst hz; rfl) (by omega) (by unfold maxLen; omega) (by omega) ?_; intro v' w3 hown hgro; obtain ⟨g', cap', rfl, ht3⟩ := tick_more hown HT.out.fit; have HT3 := Lib.hid ht3; have HR3 := Lib.hid ((HR.out.alloc HR.out.size (.cells #[.int .i64 0] 3)).grown hgro (Nat.le_trans HR.out.size (by simp)) (fun k hk => by cases hk)); clear hown hgro ht3)
      go_roundw
      case rel => exact ⟨_, _, _, _, rfl, HT3, HR3⟩
      case measure => simp [lenV]; omega
    · have l1 := HT.out.le
      have l2 := HT.out.top
      obtain ⟨tb, tq, rfl, IA0⟩ := HT.out.ints (by omega)
      have IA := Lib.hid (show IntsAt wr tb tq n t from ⟨fun j hj => IA0.cell j (by omega), fun j hj => IA0.fit j (by omega)⟩)
      obtain ⟨r, hr⟩ := sat_bool n t M
      have HRR := Lib.hid hr
      have H1 := Lib.hid (holds_any g o n k b p c M hn24 hk hl (fits_of HM.out (by decide)) tb tq cap t (by omega) l2 wr (N1.out.keep HR.out).net IA.out r hr)
      clear hr IA0
      have HBB := Lib.hid (HB3.out.trans (HR.out.mono HB3.out.size))
      have NM := Lib.hid (N1.out.keep HR.out)
      cases hc : closed n M with
      | none =>
        rw [hc] at HC
        obtain ⟨rfl, rfl⟩ : v8 = .slice none 0 0 ∧ ok = false := HC.out
        obtain rfl : r = false := by
          cases r with
          | false => rfl
          | true => exact absurd (HRR.out.1 rfl) (closed_none hc t)
        clear HC hc HRR NM N1 HB3 HT HM
        go_wp2_with (first
          | (go_at_call 12; (with_reducible refine (H1.out).mono ?_); rintro e w4 ⟨rfl, b4⟩; have HB4 := Lib.hid b4; clear b4)
          | (go_at_call 8; (with_reducible refine (awake_any _).mono ?_); rintro e w5 ⟨rfl, b5⟩))
        go_returns
        exact ⟨rfl, (HBB.out.trans (HB4.out.mono HBB.out.size)).trans (b5.mono (Nat.le_trans HBB.out.size HB4.out.size))⟩
      | some C =>
        rw [hc] at HC
        obtain ⟨rfl, g8, o8, k8, b8, p8, c8, rfl, hk8, hl8, hn8⟩ : ok = true ∧ ∃ g o k b p c, v8 = .slice (some ⟨g, o, none⟩) n k ∧ n ≤ k ∧ k ≤ 9223372036854775807 ∧ NetOwn w2 w1.heap.size g o n b p c C := HC.out
        have N8 := Lib.hid (hn8.keep HR.out)
        have HCC := Lib.hid (closed_is hc)
        have HWC := Lib.hid (within_closed' hn24 HM.out hc)
        have HLS := Lib.hid (lowest_sat (n := n) (closed_is hc).tri)
        have HLM : Hid (Sat n (fun j => lowest C j n) M) := Lib.hid ((closed_some hc _).2 HLS.out)
        have HR2 := Lib.hid ((HRR.out.trans (closed_some hc t)))
        clear HC hc HRR hn8 N1 HB3 HT
        go_upto_region 8 with (go_at_call 12; (with_reducible refine (H1.out).mono ?_); rintro e w4 ⟨rfl, b4⟩; have HB4 := Lib.hid b4; clear b4)
        clear H1
        have N84 := Lib.hid (N8.out.keep HB4.out)
        have NM4 := Lib.hid (NM.out.keep HB4.out)
        have IA4 := Lib.hid (IA.out.keep HB4.out)
        have H2 := Lib.hid (holds_any g8 o8 n k8 b8 p8 c8 C hn24 hk8 hl8 (fits_of HWC.out (by decide)) tb tq cap t (by omega) l2 w4 N84.out.net IA4.out r HR2.out)
        have HB5 := Lib.hid (HBB.out.trans (HB4.out.mono HBB.out.size))
        clear N8 NM IA HB4 HBB IA4 HR2
        have rr : (r != r) = false := by simp
        go_upto_region 12 with (go_at_call 12; (with_reducible refine (H2.out).mono ?_); rintro e w5 ⟨rfl, b5⟩; have HB6 := Lib.hid b5; clear b5)
        clear H2
        have N85 := Lib.hid (N84.out.keep HB6.out)
        have NM5 := Lib.hid (NM4.out.keep HB6.out)
        have HB7 := Lib.hid (HB5.out.trans (HB6.out.mono HB5.out.size))
        have SQ := Lib.hid (square_net g8 o8 n k8 b8 p8 c8 C hn24 hk8 hl8 w5 N85.out.net)
        clear N84 NM4 HB6 HB5 HR HB HB2 HN
        go_upto_region 16 with (first
          | (go_at_call 21; (with_reducible refine (SQ.out).mono ?_); rintro e w' ⟨rfl, rfl⟩)
          | (at_make; refine wpList_make_full _ rfl _ _ 23 rfl w5.heap.size 3 i0 (.int .i64 0) 1 Try.underlying23 HI.out HZ0.out HZ1.out .i64 .i64 _ _ n rfl rfl rfl rfl (by rw [HZ2.out]; omega) (by unfold maxLen; omega) (Nat.le_refl _) ?_; intro w6 hown hgro; have HL6 := Lib.hid (low_zero hown); have HB8 := Lib.hid ((Below.refl _ w5).grown hgro (Nat.le_refl _) (fun k hk => by cases hk)); clear hown hgro))
        clear SQ
        obtain ⟨x, hx⟩ : ∃ x, w5.heap.size = x := ⟨_, rfl⟩
        have HX := Lib.hid hx
        rw [hx] at HL6 ⊢
        clear hx
        go_loopw [84] (fun ii wr => ∃ i : Nat, i ≤ n ∧ ii = .int .i64 i ∧ Hid (LowAt wr x n (sofar C n i 0)) ∧ Hid (Below w5.heap.size w5 wr)) (fun ii _ => n - (intOf ii).toNat)
        case atStart => exact ⟨0, Nat.zero_le _, rfl, Lib.hid (HL6.out.ext (fun k hk => by simp [sofar, lowest])), HB8⟩
        case round =>
          clear HL6 HB8
          obtain ⟨i, hi, rfl, HL, HB⟩ := hrel
          by_cases ilt : i < n
          · have i0' : (0 : Int) ≤ (i : Int) := by omega
            have i1' : (i : Int) < (n : Int) := by omega
            go_wp2
            go_loopw [89] (fun jj wr => ∃ j : Nat, j ≤ n ∧ jj = .int .i64 j ∧ Hid (LowAt wr x n (sofar C n i j)) ∧ Hid (Below w5.heap.size w5 wr)) (fun jj _ => n - (intOf jj).toNat)
            case atStart => exact ⟨0, Nat.zero_le _, rfl, HL, HB⟩
            case round =>
              clear HL HB
              obtain ⟨j, hj, rfl, HL, HB⟩ := hrel
              by_cases jlt : j < n
              · have j0' : (0 : Int) ≤ (j : Int) := by omega
                have j1' : (j : Int) < (n : Int) := by omega
                have W8 := Lib.hid (N85.out.keep HB.out)
                have z1 := W8.out.net.row j jlt
                have z2 := (W8.out.net.cells j jlt).inf i ilt
                have z3 := (W8.out.net.cells j jlt).num i ilt
                have z4 := HL.out.cell i ilt
                have z5 := HL.out.free i
                have e0 : sofar C n i j i = lowest C i j := by simp [sofar]
                rw [e0] at z4
                have hne : b8 j ≠ x := by have := N85.out.high j jlt; rw [HX.out] at this; omega
                have hng : g8 ≠ x := by have := N85.out.hi; rw [HX.out] at this; omega
                generalize b8 j = bj at *
                generalize p8 j = pj at *
                generalize c8 j = cj at *
                obtain ⟨lo, hlo⟩ : ∃ q, lowest C i j = q := ⟨_, rfl⟩
                rw [hlo] at z4
                have HLO := Lib.hid hlo
                clear hlo e0
                cases hm : C j i with
                | none =>
                  rw [hm] at z2 z3
                  simp only [infOf, numOf] at z2 z3
                  have HL2 := Lib.hid (HL.out.ext (u := sofar C n i (j + 1)) (fun k hk => by simp only [sofar]; split; rfl; split; (rename_i q; subst q; simp only [lowest, hm]); rfl))
                  clear hm HL HLO z4 z5
                  go_wp2
                  go_roundw
                  case rel => exact ⟨j + 1, by omega, by go_num, HL2, HB⟩
                  case measure => simp [intOf]; omega
                | some aa =>
                  rw [hm] at z2 z3
                  simp only [infOf, numOf] at z2 z3
                  have HL2 := Lib.hid (HL.out.put (u := sofar C n i (j + 1)) i ilt (min lo aa) (fun k hk => by
                    simp only [sofar]
                    by_cases q : k = i
                    · subst q; simp only [if_true, Nat.lt_irrefl, if_false, lowest, hm, HLO.out]
                    · simp only [if_neg q]))
                  have HB2 := Lib.hid (HB.out.setCell (p := ⟨x, i, none⟩) (Nat.le_of_eq HX.out) (.int .i64 (min lo aa)))
                  clear hm HL HLO
                  go_upto_region 22 with fail
                  have em : (if aa < lo then aa else lo) = min lo aa := by split <;> omega
                  rw [← em] at HL2 HB2
                  have HL3 : Hid (LowAt (wr.setCell ⟨x, i, none⟩ (.int .i64 (if aa < lo then aa else lo))).drew x n (sofar C n i (j + 1))) := Lib.hid (HL2.out.drew 1)
                  have HB3 : Hid (Below w5.heap.size w5 (wr.setCell ⟨x, i, none⟩ (.int .i64 (if aa < lo then aa else lo))).drew) := Lib.hid HB2.out.drew
                  clear em HL2 HB2
                  go_region
                  go_wp2
                  go_roundw
                  case rel => exact ⟨j + 1, by omega, by go_num, HL3, HB3⟩
                  case measure => simp [intOf]; omega
              · have HL2 := Lib.hid (HL.out.ext (u := sofar C n (i + 1) 0) (fun k hk => by
                  simp only [sofar]
                  by_cases q : k < i
                  · rw [if_pos q, if_pos (by omega)]
                  · by_cases q2 : k = i
                    · rw [if_neg q, if_pos q2, if_pos (by omega), show j = n by omega]
                    · rw [if_neg q, if_neg q2, if_neg (by omega)]
                      split
                      · rfl
                      · rfl))
                go_wp2
                go_roundw
                case rel => exact ⟨i + 1, by omega, by go_num, HL2, HB⟩
                case measure => simp [intOf]; omega
          · have IL := Lib.hid (show IntsAt wr x 0 n (fun j => lowest C j n) from ⟨fun j hj => by rw [Nat.zero_add, HL.out.cell j hj]; simp [sofar, show j < i by omega], fun j hj => ⟨by have := lowest_fit (by decide) HWC.out j hj n (Nat.le_refl _); omega, by have := lowest_zero C j n; omega⟩⟩)
            have NC := Lib.hid (N85.out.keep HB.out)
            have NN := Lib.hid (NM5.out.keep HB.out)
            have F1 := Lib.hid (fits_of HM.out (by decide))
            have F2 := Lib.hid (fits_of HWC.out (by decide))
            have H3 := Lib.hid (holds_any g o n k b p c M hn24 hk hl F1.out x 0 n (fun j => lowest C j n) (Nat.le_refl _) (by omega) wr NN.out.net IL.out true ⟨fun _ => HLM.out, fun _ => rfl⟩)
            have H4 := Lib.hid (fun (w' : World) (hb : Below wr.heap.size wr w') => holds_any g8 o8 n k8 b8 p8 c8 C hn24 hk8 hl8 F2.out x 0 n (fun j => lowest C j n) (Nat.le_refl _) (by omega) w' (NC.out.keep hb).net (IL.out.keep hb) true ⟨fun _ => HLS.out, fun _ => rfl⟩)
            clear IL NC NN F1 F2 HL HLM HLS HWC HCC
            go_wp2_with (first
              | (go_at_call 12; (with_reducible refine (H3.out).mono ?_); rintro e w7 ⟨rfl, b7⟩; have HB9 := Lib.hid b7; clear b7)
              | (go_at_call 12; (with_reducible refine (H4.out _ HB9.out).mono ?_); rintro e w8 ⟨rfl, b8⟩; have HB10 := Lib.hid b8; clear b8)
              | (go_at_call 8; (with_reducible refine (awake_any _).mono ?_); rintro e w9 ⟨rfl, b9⟩))
            go_returns
            exact ⟨rfl, ((HB7.out.trans (HB.out.mono HB7.out.size)).trans ((HB9.out.trans ((HB10.out.trans (b9.mono HB10.out.size)).mono HB9.out.size)).mono (Nat.le_trans HB7.out.size HB.out.size)))⟩
end Go.Proofs.Ytnhbinghinlhgaa
