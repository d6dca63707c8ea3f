/- M13, M14, M15, M17, M16 in one. -/
import Derived.Test.YtkhnoikdfelheaaY1
import Derived.Test.YtkhnoikdfelheaaW1
import Derived.Test.YtkhnoikdfelheaaC6
import Derived.Test.YtkhnoikdfelheaaW2
import Derived.Test.YtkhnoikdfelheaaK3
namespace Go.Proofs.Ytkhnoikdfelheaa
set_option linter.unusedVariables false
set_option linter.unusedSimpArgs false
open Go.ChangeShapes Go.WideShapes Go.ChangeAt Go.RowKit
abbrev doubleF (co : Option Addr) (cc : Nat) : Fv := ⟨14, 2, co, 2, cc, none, 0, 0, [[(0, 4)], [(7, 11)]], []⟩
abbrev halfF (co : Option Addr) (cc : Nat) : Fv := ⟨9, 2, co, 2, cc, none, 0, 0, [[(0, 1)], [(4, 5)]], []⟩
abbrev bareF (co : Option Addr) (cc : Nat) (oo : Option Addr) (oc : Nat) : Fv := ⟨5, 3, co, 3, cc, oo, 2, oc, [[], [], []], [(5, [(1, 2)]), (6, [])]⟩
abbrev lonelyF (co : Option Addr) (cc : Nat) (oo : Option Addr) (oc : Nat) : Fv := ⟨0, 0, co, 0, cc, oo, 1, oc, [], [(5, [(1, 2)])]⟩
section
variable (co : Option Addr) (cc : Nat) (oo : Option Addr) (oc : Nat)
theorem turn_double : IsTurn [[(0, 4)], [(7, 11)]] 14 2 1 := by
  refine .inr ⟨⟨_, List.mem_cons_self, by simp⟩, turn_of ⟨by decide, rfl⟩ (by decide) (by decide) (by decide) (fun i hi => ?_), fun e h => h.pos⟩
  have : i = 0 ∨ i = 1 := by simp at hi; omega
  rcases this with rfl | rfl <;> decide
theorem turn_half : IsTurn [[(0, 1)], [(4, 5)]] 9 2 2 := by
  refine .inr ⟨⟨_, List.mem_cons_self, by simp⟩, turn_all (cs := [[(0, 1)], [(4, 5)]]) ⟨by decide, rfl⟩, fun e h => ?_⟩
  have h1 := h.pos
  by_cases q : e = 1
  · subst q; have := h.per; revert this; decide
  · omega
theorem turn_bare : IsTurn [[], [], []] 5 3 0 := .inl ⟨rfl, by simp⟩
theorem turn_weeks : IsTurn [[(0, 4)]] 7 1 1 := .inr ⟨⟨_, List.mem_cons_self, by simp⟩, turn_all (cs := [[(0, 4)]]) ⟨by decide, rfl⟩, fun e h => h.pos⟩
theorem can_double (ko : Option Addr) (kc : Nat) (lo : Option Addr) (lc : Nat) : IsCan (doubleF co cc) (weeksF 7 [] ko kc lo lc) := ⟨turn_double, rfl, (show (7 : Int) = canP 14 2 1 by decide), rfl, rfl⟩
theorem can_half (ko : Option Addr) (kc : Nat) : IsCan (halfF co cc) (halfF ko kc) := ⟨turn_half, rfl, (show (9 : Int) = canP 9 2 2 by decide), rfl, rfl⟩
theorem can_bare (ko : Option Addr) (kc : Nat) (lo : Option Addr) (lc : Nat) : IsCan (bareF co cc oo oc) (lonelyF ko kc lo lc) := ⟨turn_bare, rfl, (show (0 : Int) = canP 5 3 0 by decide), rfl, (show [(5, [(1, 2)])] = List.filter (fun o : Gr => !(decide (o.2 = cg [[], [], []] 5 3 o.1))) [(5, [(1, 2)]), (6, [])] by decide)⟩
theorem can_weeksX (ko : Option Addr) (kc : Nat) (lo : Option Addr) (lc : Nat) : IsCan (weeksF 7 [(1, [(7, 11)])] co cc oo oc) (weeksF 7 [] ko kc lo lc) := ⟨turn_weeks, rfl, (show (7 : Int) = canP 7 1 1 by decide), rfl, (show [] = List.filter (fun o : Gr => !(decide (o.2 = cg [[(0, 4)]] 7 1 o.1))) [(1, [(7, 11)])] by decide)⟩
theorem can_weeks (ko : Option Addr) (kc : Nat) (lo : Option Addr) (lc : Nat) : IsCan (weeksF 7 [] co cc oo oc) (weeksF 7 [] ko kc lo lc) := ⟨turn_weeks, rfl, (show (7 : Int) = canP 7 1 1 by decide), rfl, rfl⟩
theorem ris_double : RisOk [[(0, 4)], [(7, 11)]] 14 := ⟨by simp [Ahd], fun a ha b hb s hs u hu => by
  simp at ha hb
  rcases ha with rfl | rfl <;> rcases hb with rfl | rfl <;> simp at hs hu <;> subst hs hu <;> simp⟩
theorem ris_half : RisOk [[(0, 1)], [(4, 5)]] 9 := ⟨by simp [Ahd], fun a ha b hb s hs u hu => by
  simp at ha hb
  rcases ha with rfl | rfl <;> rcases hb with rfl | rfl <;> simp at hs hu <;> subst hs hu <;> simp⟩
theorem ris_bare : RisOk [[], [], []] 5 := ⟨by simp [Ahd], fun a ha b hb s hs u hu => by
  simp at ha
  rw [ha] at hs; cases hs⟩
theorem rt_double : (doubleF co cc).Rt := by
  refine ⟨.inr ⟨(show (2 : Int) ≠ 0 by decide), rfl, (show (1 : Int) ≤ 14 by decide), (show (14 : Int) ≤ 1099511627776 by decide)⟩, fun l hl => ?_, oddOk_nil, ris_double, fun i => ⟨fun h => ?_, fun h => ?_⟩⟩
  · simp at hl; rcases hl with rfl | rfl <;> simp [Good, Rt]
  · exact absurd h (Nat.not_lt_zero _)
  · exact absurd h (Nat.not_lt_zero _)
theorem rt_half : (halfF co cc).Rt := by
  refine ⟨.inr ⟨(show (2 : Int) ≠ 0 by decide), rfl, (show (1 : Int) ≤ 9 by decide), (show (9 : Int) ≤ 1099511627776 by decide)⟩, fun l hl => ?_, oddOk_nil, ris_half, fun i => ⟨fun h => ?_, fun h => ?_⟩⟩
  · simp at hl; rcases hl with rfl | rfl <;> simp [Good, Rt]
  · exact absurd h (Nat.not_lt_zero _)
  · exact absurd h (Nat.not_lt_zero _)
theorem odd56 : OddOk [(5, [(1, 2)]), (6, [])] := ⟨fun o ho => by simp at ho; rcases ho with rfl | rfl <;> exact ⟨by simp [Good, Rt], by decide, by decide⟩, by simp⟩
theorem cg_bareF (k : Int) : cg [[], [], []] 5 3 k = [] := cg_bare (by simp) k
theorem gr_b5 : gr (bareF co cc oo oc) 5 = [(1, 2)] := by
  show (match exc [(5, [(1, 2)]), (6, [])] 5 with | some l => l | none => cg [[], [], []] 5 3 5) = _
  decide
theorem gr_bN (k : Int) (h : k ≠ 5) : gr (bareF co cc oo oc) k = [] := by
  show (match exc [(5, [(1, 2)]), (6, [])] k with | some l => l | none => cg [[], [], []] 5 3 k) = _
  by_cases h6 : k = 6
  · subst h6; decide
  · have e : exc [(5, [(1, 2)]), (6, [])] k = none := exc_none.2 (fun o ho => by simp at ho; rcases ho with rfl | rfl <;> simp <;> omega)
    rw [e]
    exact cg_bareF k
theorem rt_bare : (bareF co cc oo oc).Rt := by
  refine ⟨.inr ⟨(show (3 : Int) ≠ 0 by decide), rfl, (show (1 : Int) ≤ 5 by decide), (show (5 : Int) ≤ 1099511627776 by decide)⟩, fun l hl => ?_, odd56, ris_bare, fun i => ⟨fun h j hj => ?_, fun h j hj => ?_⟩⟩
  · simp at hl; subst hl; simp [Good, Rt]
  all_goals
    have hi : i = 0 ∨ i = 1 := by simp at h; omega
    obtain ⟨a, b, c⟩ := hj.yes rfl
    rcases hi with rfl | rfl
    · simp at a
      exact absurd (gr_bN co cc oo oc j (by omega)) b
    · simp at a
      by_cases q : j = 5
      · subst q
        rw [gr_b5]
        exact ⟨fit_good (by simp [Good, Rt]), fun z => absurd rfl z⟩
      · exact absurd (gr_bN co cc oo oc j q) b
theorem odd711 : OddOk [(1, [(7, 11)])] := ⟨fun o ho => by simp at ho; subst ho; exact ⟨by simp [Good, Rt], by decide, by decide⟩, by simp⟩
theorem gr_x0 : gr (weeksF 7 [(1, [(7, 11)])] co cc oo oc) 0 = [(0, 4)] := by
  show (match exc [(1, [(7, 11)])] 0 with | some l => l | none => cg [[(0, 4)]] 7 1 0) = _
  decide
theorem gr_x2 : gr (weeksF 7 [(1, [(7, 11)])] co cc oo oc) 2 = [(14, 18)] := by
  show (match exc [(1, [(7, 11)])] 2 with | some l => l | none => cg [[(0, 4)]] 7 1 2) = _
  decide
theorem rt_weeksX : (weeksF 7 [(1, [(7, 11)])] co cc oo oc).Rt := by
  refine ⟨meas7 co cc oo oc _, fun l hl => ?_, odd711, ris7, fun i => ⟨fun h j hj => ?_, fun h j hj => ?_⟩⟩
  · simp at hl; rw [hl]; exact good04
  · have hi : i = 0 := by simpa using h
    subst hi
    obtain ⟨a, b, c⟩ := hj.yes rfl
    simp at a
    have h0 := gr_x0 co cc oo oc
    obtain rfl : j = 0 := by
      by_cases e : j = 0
      · exact e
      · have := c 0 (by simp) (by omega)
        rw [h0] at this; cases this
    rw [h0]
    exact ⟨fit_good good04, fun _ => (show decide (hullB [(0, 4)] < hullA [(7, 11)]) = true by decide)⟩
  · have hi : i = 0 := by simpa using h
    subst hi
    obtain ⟨a, b, c⟩ := hj.yes rfl
    simp at a
    have h2 := gr_x2 co cc oo oc
    obtain rfl : j = 2 := by
      by_cases e : j = 2
      · exact e
      · have := c 2 (by simp) (by omega)
        rw [h2] at this; cases this
    rw [h2]
    exact ⟨fit_good (by simp [Good, Rt]), fun _ => (show decide (hullB [(7, 11)] < hullA [(14, 18)]) = true by decide)⟩
theorem canEq_wa (ko : Option Addr) (kc : Nat) (G : Fv) (hG : IsCan (doubleF ko kc) G) : CanEq (weeksF 7 [(1, [(7, 11)])] co cc oo oc) (weeksF 7 [] ko kc none 0) :=
  (canEq_iff (can_weeksX co cc oo oc co cc oo oc) (can_weeks ko kc none 0 ko kc none 0)).2 ⟨rfl, rfl, rfl, rfl⟩
theorem canEq_wh (ko : Option Addr) (kc : Nat) : ¬ CanEq (weeksF 7 [(1, [(7, 11)])] co cc oo oc) (halfF ko kc) := fun h => by
  have := ((canEq_iff (can_weeksX co cc oo oc co cc oo oc) (can_half ko kc ko kc)).1 h).1
  exact absurd (show (7 : Int) = 9 from this) (by decide)
end
set_option maxHeartbeats 1000000 in
theorem near_any (F : Fv) (most : Int) (w : World) (hF : F.At w) (m0 : 0 ≤ most) (m1 : most ≤ 1000000) (r : Bool) (hr : r = true ↔ ∀ o ∈ F.os, -most ≤ o.1 ∧ o.1 ≤ most) :
    Calls Try.prog 15 #[F.v, .int .i64 most] w fun e w' => e = .returned (.bool r) ∧ Below w.heap.size w w' := by
  have HR := Lib.hid hr
  have LO := Lib.hid hF.odd.len
  have hmx : F.on ≤ 9223372036854775807 := Nat.le_trans hF.odd.le hF.odd.top
  have hF0 := hF
  clear hr
  obtain ⟨P, N, co, cn, cc, oo, on, oc, cs, os⟩ := F
  have LO : Hid (os.length = on) := LO
  have hmx : on ≤ 9223372036854775807 := hmx
  have HR : Hid (r = true ↔ ∀ o ∈ os, -most ≤ o.1 ∧ o.1 ≤ most) := HR
  obtain ⟨b, hb⟩ : ∃ b, w.heap.size = b := ⟨_, rfl⟩
  obtain ⟨wb, hwb⟩ : ∃ wb, w.alloc (.cells #[.int .i64 P, .int .i64 N, .slice co cn cc, .slice oo on oc] 25) = wb := ⟨_, rfl⟩
  have HBB : Hid (Fbox ⟨P, N, co, cn, cc, oo, on, oc, cs, os⟩ w wb b) := Lib.hid (by rw [← hwb, ← hb]; exact fbox_new hF0)
  clear hF hF0
  show Calls Try.prog 15 #[.agg #[.int .i64 P, .int .i64 N, .slice co cn cc, .slice oo on oc], .int .i64 most] w _
  go_enter Try.func15, Try.ntmps15
  go_upto_region 1 with fail
  clear hwb hb
  have e3 : wb.cell? ⟨b, 3, none⟩ = some (.slice oo on oc) := HBB.out.c3
  go_wp2
  clear e3
  go_loopw [10] (fun ii wr => ∃ i : Nat, i ≤ on ∧ ii = .int .i64 i ∧ Hid (∀ o ∈ os.take i, -most ≤ o.1 ∧ o.1 ≤ most) ∧ Hid (Fbox ⟨P, N, co, cn, cc, oo, on, oc, cs, os⟩ w wr b)) (fun ii _ => on - (intOf ii).toNat)
  case atStart => exact ⟨0, Nat.zero_le _, rfl, Lib.hid (fun l h => by cases h), HBB⟩
  case round =>
    obtain ⟨i, hi, rfl, HG, HW⟩ := hrel
    by_cases ilt : i < on
    · obtain ⟨g, p, rfl, hc⟩ := (show OdAt wr oo on oc os from HW.out.at_.odd).here (by omega)
      have hil : i < os.length := by rw [LO.out]; exact ilt
      obtain ⟨d1, ⟨o, m, d, d2, d3⟩, d4, d5⟩ := hc i hil
      have i0 : (0 : Int) ≤ (i : Int) := by omega
      have i1 : (i : Int) < (on : Int) := by omega
      have HM := Lib.hid (List.getElem_mem hil)
      have HTS := Lib.hid (List.take_succ_eq_append_getElem hil)
      obtain ⟨X, hX⟩ : ∃ X, os[i].1 = X := ⟨_, rfl⟩
      have HX := Lib.hid hX
      rw [hX] at d1 d4 d5
      have KA := Lib.hid ((Below.refl _ wr).alloc (Nat.le_refl _) (.cells #[.int .i64 X, .slice o m d] 43))
      have HW2 := Lib.hid (HW.out.keep KA.out)
      have u0 := (box_cells wr (.int .i64 X) (.slice o m d) 43).1
      clear hc d3 hX KA
      by_cases h1 : X < -most
      · have t1 : decide (X < -most) = true := by simp; exact h1
        have HF : Hid (false = r) := Lib.hid (by
          cases r
          · rfl
          · have := (HR.out.1 rfl _ HM.out).1; rw [HX.out] at this; omega)
        clear HM HTS HX hil
        go_wp2
        go_returns
        exact ⟨ret_bool HF.out, HW2.out.bw⟩
      · have t1 : decide (X < -most) = false := by simp; omega
        by_cases h2 : most < X
        · have t2 : decide (most < X) = true := by simp; exact h2
          have HF : Hid (false = r) := Lib.hid (by
            cases r
            · rfl
            · have := (HR.out.1 rfl _ HM.out).2; rw [HX.out] at this; omega)
          clear HM HTS HX hil
          go_wp2
          go_returns
          exact ⟨ret_bool HF.out, HW2.out.bw⟩
        · have t2 : decide (most < X) = false := by simp; omega
          have HG2 : Hid (∀ o ∈ os.take (i + 1), -most ≤ o.1 ∧ o.1 ≤ most) := Lib.hid (fun o ho => by
            rw [HTS.out] at ho
            rcases List.mem_append.1 ho with h | h
            · exact HG.out o h
            · rw [List.mem_singleton.1 h, HX.out]; exact ⟨by omega, by omega⟩)
          clear HM HTS HX hil
          go_wp2
          go_roundw
          case rel => exact ⟨i + 1, by omega, by go_num, HG2, HW2⟩
          case measure => simp [intOf]; omega
    · obtain rfl : on = i := by omega
      have HF : Hid (true = r) := Lib.hid (by
        have h := HG.out
        rw [List.take_of_length_le (by rw [LO.out]; exact Nat.le_refl _)] at h
        exact (HR.out.2 h).symm)
      go_wp2
      go_returns
      exact ⟨ret_bool HF.out, HW.out.bw⟩
theorem sp_block {w : World} {g : Nat} {x y : Int} (h : w.heap[g]? = some (.cells #[.int .i64 x, .int .i64 y] 46 (0, 0))) : SpAt w (some ⟨g, 0, none⟩) 1 1 [(x, y)] := by
  refine ⟨rfl, Nat.le_refl _, (show 1 ≤ 9223372036854775807 by decide), (fun e => by cases e), fun _ => ⟨_, _, rfl, fun j hj => ?_⟩⟩
  obtain rfl : j = 0 := by simpa using hj
  exact ⟨cell_block h 0, cell_block h 1⟩
theorem sp_none (w : World) : SpAt w none 0 0 [] := ⟨rfl, Nat.le_refl _, by decide, fun _ => ⟨rfl, rfl⟩, fun h => absurd h (Nat.lt_irrefl _)⟩
theorem co_block2 {w : World} {g1 g2 g3 : Nat} {x y u v : Int} (h1 : w.heap[g1]? = some (.cells #[.int .i64 x, .int .i64 y] 46 (0, 0))) (h2 : w.heap[g2]? = some (.cells #[.int .i64 u, .int .i64 v] 46 (0, 0))) (h3 : w.heap[g3]? = some (.cells #[.slice (some ⟨g1, 0, none⟩) 1 1, .slice (some ⟨g2, 0, none⟩) 1 1] 31 (0, 0))) : CoAt w (some ⟨g3, 0, none⟩) 2 2 [[(x, y)], [(u, v)]] := by
  refine ⟨rfl, Nat.le_refl _, by decide, (fun e => by cases e), fun _ => ⟨_, _, rfl, fun i hi => ?_⟩⟩
  have : i = 0 ∨ i = 1 := by simp at hi; omega
  rcases this with rfl | rfl
  · exact ⟨_, _, _, cell_block h3 0, sp_block h1⟩
  · exact ⟨_, _, _, cell_block h3 1, sp_block h2⟩
theorem co_block3 {w : World} {g : Nat} (h : w.heap[g]? = some (.cells #[.slice none 0 0, .slice none 0 0, .slice none 0 0] 31 (0, 0))) : CoAt w (some ⟨g, 0, none⟩) 3 3 [[], [], []] := by
  refine ⟨rfl, Nat.le_refl _, by decide, (fun e => by cases e), fun _ => ⟨_, _, rfl, fun i hi => ?_⟩⟩
  have : i = 0 ∨ i = 1 ∨ i = 2 := by simp at hi; omega
  rcases this with rfl | rfl | rfl
  · exact ⟨_, _, _, cell_block h 0, sp_none w⟩
  · exact ⟨_, _, _, cell_block h 1, sp_none w⟩
  · exact ⟨_, _, _, cell_block h 2, sp_none w⟩
theorem od_block1 {w : World} {g1 g2 : Nat} {i x y : Int} (h1 : w.heap[g1]? = some (.cells #[.int .i64 x, .int .i64 y] 46 (0, 0))) (h2 : w.heap[g2]? = some (.cells #[.int .i64 i, .slice (some ⟨g1, 0, none⟩) 1 1] 43 (0, 0))) (hi : -9223372036854775808 ≤ i ∧ i ≤ 9223372036854775807) : OdAt w (some ⟨g2, 0, none⟩) 1 1 [(i, [(x, y)])] := by
  refine ⟨rfl, Nat.le_refl _, by decide, (fun e => by cases e), fun _ => ⟨_, _, rfl, fun j hj => ?_⟩⟩
  obtain rfl : j = 0 := by simpa using hj
  exact ⟨cell_block h2 0, ⟨_, _, _, cell_block h2 1, sp_block h1⟩, hi⟩
theorem od_block2 {w : World} {g1 g2 : Nat} {x y : Int} (h1 : w.heap[g1]? = some (.cells #[.int .i64 x, .int .i64 y] 46 (0, 0))) (h2 : w.heap[g2]? = some (.cells #[.int .i64 5, .slice (some ⟨g1, 0, none⟩) 1 1, .int .i64 6, .slice none 0 0] 43 (0, 0))) : OdAt w (some ⟨g2, 0, none⟩) 2 2 [(5, [(x, y)]), (6, [])] := by
  refine ⟨rfl, Nat.le_refl _, by decide, (fun e => by cases e), fun _ => ⟨_, _, rfl, fun j hj => ?_⟩⟩
  have : j = 0 ∨ j = 1 := by simp at hj; omega
  rcases this with rfl | rfl
  · exact ⟨cell_block h2 0, ⟨_, _, _, cell_block h2 1, sp_block h1⟩, (show (-9223372036854775808 : Int) ≤ 5 by decide), (show (5 : Int) ≤ 9223372036854775807 by decide)⟩
  · exact ⟨cell_block h2 2, ⟨_, _, _, cell_block h2 3, sp_none w⟩, (show (-9223372036854775808 : Int) ≤ 6 by decide), (show (6 : Int) ≤ 9223372036854775807 by decide)⟩
theorem fv_mk {P N : Int} {co oo : Option Addr} {cn cc on oc : Nat} {cs : List (List Sp)} {os : List Gr} {w : World} (h : (-9223372036854775808 ≤ P ∧ P ≤ 9223372036854775807) ∧ -9223372036854775808 ≤ N ∧ N ≤ 9223372036854775807) (hc : CoAt w co cn cc cs) (ho : OdAt w oo on oc os) (h1 : ∀ l ∈ cs, l.length ≤ 10000000000000) (h2 : ∀ o ∈ os, o.2.length ≤ 10000000000000) : Fv.At ⟨P, N, co, cn, cc, oo, on, oc, cs, os⟩ w := ⟨h.1.1, h.1.2, h.2.1, h.2.2, hc, ho, h1, h2⟩
theorem fbox_at {F : Fv} {w0 w : World} {b : Nat} (h : F.At w) (hb : w.heap[b]? = some (.cells F.box 25 (0, 0))) (k : Below w0.heap.size w0 w) : Fbox F w0 w b := ⟨h, cell_block hb 0, cell_block hb 1, cell_block hb 2, cell_block hb 3, k⟩
/-- Right, of a right form. -/
theorem right_ok (F : Fv) (hs : F.Mid) (rt : F.Rt) (W : World) (h : F.At W) : Calls Try.prog 19 #[F.v] W fun e w' => e = .returned (.int .i64 0) ∧ Below W.heap.size W w' := right_mid F W h hs true ⟨fun _ => rt, fun _ => rfl⟩
/-- Form, of a right form. -/
theorem form_ok (F : Fv) (hs : F.Mid) (rt : F.Rt) (W : World) (h : F.At W) : Calls Try.prog 11 #[F.v] W fun e w' => ∃ G : Fv, e = .returned G.v ∧ IsCan F G ∧ G.Own w' W.heap.size ∧ Below W.heap.size W w' := form_can F W h (rt.okm hs) rt (right_ok F hs rt)
/-- Is, of a right form. -/
theorem is_ok (F : Fv) (hs : F.Mid) (rt : F.Rt) (W : World) (h : F.At W) (r : Bool) (hr : r = true ↔ IsTurn F.cs F.P F.N F.cn ∧ ∀ o ∈ F.os, o.2 ≠ cg F.cs F.P F.N o.1) : Calls Try.prog 14 #[F.v] W fun e w' => e = .returned (.bool r) ∧ Below W.heap.size W w' := is_right F W h (rt.okm hs) (right_ok F hs rt) r hr
/-- Same, of right forms. -/
theorem same_ok (F H : Fv) (hF : F.Mid) (hH : H.Mid) (rF : F.Rt) (rH : H.Rt) (W : World) (aF : F.At W) (aH : H.At W) (r : Bool) (hr : r = true ↔ CanEq F H) : Calls Try.prog 18 #[F.v, H.v] W fun e w' => e = .returned (.bool r) ∧ Below W.heap.size W w' :=
  canSame_any F H W aF aH (rF.okm hF) (rH.okm hH) rF rH (right_ok F hF rF) (right_ok H hH rH) r hr
section
variable (co : Option Addr) (cc : Nat) (oo : Option Addr) (oc : Nat)
theorem mid_weeks : (weeksF 7 [] co cc oo oc).Mid := ⟨(show 1 ≤ 6000 by decide), (show 0 ≤ 6000 by decide), (show lens [[(0, 4)]] + lens (tks []) ≤ 60000 by decide)⟩
theorem mid_weeksX : (weeksF 7 [(1, [(7, 11)])] co cc oo oc).Mid := ⟨(show 1 ≤ 6000 by decide), (show 1 ≤ 6000 by decide), (show lens [[(0, 4)]] + lens (tks [(1, [(7, 11)])]) ≤ 60000 by decide)⟩
theorem mid_double : (doubleF co cc).Mid := ⟨(show 2 ≤ 6000 by decide), (show 0 ≤ 6000 by decide), (show lens [[(0, 4)], [(7, 11)]] + lens (tks []) ≤ 60000 by decide)⟩
theorem mid_half : (halfF co cc).Mid := ⟨(show 2 ≤ 6000 by decide), (show 0 ≤ 6000 by decide), (show lens [[(0, 1)], [(4, 5)]] + lens (tks []) ≤ 60000 by decide)⟩
theorem mid_bare : (bareF co cc oo oc).Mid := ⟨(show 3 ≤ 6000 by decide), (show 2 ≤ 6000 by decide), (show lens [[], [], []] + lens (tks [(5, [(1, 2)]), (6, [])]) ≤ 60000 by decide)⟩
end
/-- A canonical form is known but for where it lies. -/
theorem own_is {F G K : Fv} {w : World} {B : Nat} (h : IsCan F G) (k : IsCan F K) (ho : G.Own w B) (hc : K.cs.length = K.cn) (hd : K.os.length = K.on) : G = ⟨K.P, K.N, G.co, K.cn, G.cc, G.oo, K.on, G.oc, K.cs, K.os⟩ := by
  obtain ⟨e1, e2, e3, e4⟩ := isCan_unique h k
  have l1 := ho.at_.core.len
  have l2 := ho.at_.odd.len
  obtain ⟨P, N, co, cn, cc, oo, on, oc, cs, os⟩ := G
  dsimp only at e1 e2 e3 e4 l1 l2 ⊢
  rw [e1, e2, e3, e4, ← hc, ← hd, ← l1, ← l2, e3, e4]
theorem meas_N {F : Fv} (h : F.Meas) : F.N = (F.cn : Int) := by
  rcases h with ⟨h1, _, h2⟩ | ⟨_, h, _⟩ <;> omega
theorem canEq_of {F G : Fv} (hF : F.Rt) (hG : G.Rt) (lF : F.cs.length = F.cn) (lG : G.cs.length = G.cn) (sF : F.cn ≤ 12) (sG : G.cn ≤ 12) (nF : ∀ o ∈ F.os, -200 ≤ o.1 ∧ o.1 ≤ 200) (nG : ∀ o ∈ G.os, -200 ≤ o.1 ∧ o.1 ≤ 200) (h : ∀ i : Int, -2000 ≤ i → i ≤ 2000 → gr F i = gr G i) : CanEq F G := fun A B cA cB => by
  have f1 := meas_full hF.meas lF
  have f2 := meas_full hG.meas lG
  have e1 := meas_N hF.meas
  have e2 := meas_N hG.meas
  have hm : F.N * G.N ≤ 12 * 12 := Int.mul_le_mul (by omega) (by omega) (by omega) (by omega)
  refine can_unique cA cB f1 f2 hF.odd.inc hG.odd.inc (core_window f1 f2 201 1800 (by omega) (by omega) (by omega) (fun i i1 i2 => ?_)) (fun i hi => ?_)
  · have x1 : exc F.os i = none := exc_none.2 (fun o ho e => by have := nF o ho; omega)
    have x2 : exc G.os i = none := exc_none.2 (fun o ho e => by have := nG o ho; omega)
    rw [← gr_free (F := F) x1, ← gr_free (F := G) x2]
    exact h i (by omega) (by omega)
  · have key : ∀ {os : List Gr}, (∀ o ∈ os, -200 ≤ o.1 ∧ o.1 ≤ 200) → exc os i ≠ none → -200 ≤ i ∧ i ≤ 200 := fun {os} hn hx => by
      cases e : exc os i with
      | none => exact absurd e hx
      | some l =>
        obtain ⟨n, hn2, q1, _⟩ := exc_some e
        have := hn _ (List.getElem_mem hn2)
        omega
    have : -200 ≤ i ∧ i ≤ 200 := by
      rcases hi with hi | hi
      · exact key nF hi
      · exact key nG hi
    exact h i (by omega) (by omega)
theorem isCan_ex {F : Fv} (hF : F.Rt) (lF : F.cs.length = F.cn) : ∃ A, IsCan F A := by
  obtain ⟨d, hd⟩ := isTurn_ex (cs := F.cs) (P := F.P) (N := F.N) (meas_full hF.meas lF)
  exact ⟨⟨canP F.P F.N d, d, none, d, 0, none, 0, 0, F.cs.take d, canOs F⟩, hd, rfl, rfl, rfl, rfl⟩
theorem gr_of_canEq {F G : Fv} (hF : F.Rt) (hG : G.Rt) (lF : F.cs.length = F.cn) (lG : G.cs.length = G.cn) (h : CanEq F G) (i : Int) : gr F i = gr G i := by
  obtain ⟨A, cA⟩ := isCan_ex hF lF
  obtain ⟨B, cB⟩ := isCan_ex hG lG
  exact can_same cA cB (meas_full hF.meas lF) (meas_full hG.meas lG) hF.odd.inc hG.odd.inc (h A B cA cB) i
/-- The four forms of the example, boxed. -/
structure Ex (w W : World) (b1 b2 b3 b4 : Nat) (Fa Fh Fb Fx : Fv) : Prop where
  a : Fbox Fa w W b1
  h : Fbox Fh w W b2
  b : Fbox Fb w W b3
  x : Fbox Fx w W b4
theorem Ex.keep {w W W' : World} {b1 b2 b3 b4 : Nat} {Fa Fh Fb Fx : Fv} (h : Ex w W b1 b2 b3 b4 Fa Fh Fb Fx) (k : Below W.heap.size W W') : Ex w W' b1 b2 b3 b4 Fa Fh Fb Fx := ⟨h.a.keep k, h.h.keep k, h.b.keep k, h.x.keep k⟩
set_option maxRecDepth 8000 in
set_option maxHeartbeats 4000000 in
theorem awake_any (w : World) : Calls Try.prog 9 #[] w fun e w' => e = .returned (.bool true) ∧ Below w.heap.size w w' := by
  have HWK : Hid (∀ W, Calls Try.prog 22 #[] W fun e w' => ∃ co cc, e = .returned (.agg #[.int .i64 7, .int .i64 1, .slice co 1 cc, .slice none 0 0]) ∧ Hid (CoAt w' co 1 cc [[(0, 4)]]) ∧ Below W.heap.size W w') := Lib.hid (fun W => weeks_any W)
  have HDB : Hid (∀ W co cc, (doubleF co cc).At W → Calls Try.prog 11 #[.agg #[.int .i64 14, .int .i64 2, .slice co 2 cc, .slice none 0 0]] W fun e w' => ∃ ao ac ko kc, e = .returned (.agg #[.int .i64 7, .int .i64 1, .slice ao 1 ac, .slice ko 0 kc]) ∧ Hid ((weeksF 7 [] ao ac ko kc).At w') ∧ Below W.heap.size W w') := Lib.hid (fun W co cc h => (form_ok (doubleF co cc) (mid_double co cc) (rt_double co cc) W h).mono (by
    rintro e w' ⟨G, rfl, hc, ho, hb⟩
    have e := own_is hc (can_double co cc none 0 none 0) ho rfl rfl
    have ha := ho.at_
    rw [e] at ha
    exact ⟨_, _, _, _, (by first | (rw [e]; done) | (rw [e]; rfl)), Lib.hid ha, hb⟩))
  have HBA : Hid (∀ W co cc oo oc, (bareF co cc oo oc).At W → Calls Try.prog 11 #[.agg #[.int .i64 5, .int .i64 3, .slice co 3 cc, .slice oo 2 oc]] W fun e w' => ∃ ao ac ko kc, e = .returned (.agg #[.int .i64 0, .int .i64 0, .slice ao 0 ac, .slice ko 1 kc]) ∧ Hid ((lonelyF ao ac ko kc).At w') ∧ Below W.heap.size W w') := Lib.hid (fun W co cc oo oc h => (form_ok (bareF co cc oo oc) (mid_bare co cc oo oc) (rt_bare co cc oo oc) W h).mono (by
    rintro e w' ⟨G, rfl, hc, ho, hb⟩
    have e := own_is hc (can_bare co cc oo oc none 0 none 0) ho rfl rfl
    have ha := ho.at_
    rw [e] at ha
    exact ⟨_, _, _, _, (by first | (rw [e]; done) | (rw [e]; rfl)), Lib.hid ha, hb⟩))
  have HWX : Hid (∀ W co cc oo oc, (weeksF 7 [(1, [(7, 11)])] co cc oo oc).At W → Calls Try.prog 11 #[.agg #[.int .i64 7, .int .i64 1, .slice co 1 cc, .slice oo 1 oc]] W fun e w' => ∃ ao ac ko kc, e = .returned (.agg #[.int .i64 7, .int .i64 1, .slice ao 1 ac, .slice ko 0 kc]) ∧ Hid ((weeksF 7 [] ao ac ko kc).At w') ∧ Below W.heap.size W w') := Lib.hid (fun W co cc oo oc h => (form_ok (weeksF 7 [(1, [(7, 11)])] co cc oo oc) (mid_weeksX co cc oo oc) (rt_weeksX co cc oo oc) W h).mono (by
    rintro e w' ⟨G, rfl, hc, ho, hb⟩
    have e := own_is hc (can_weeksX co cc oo oc none 0 none 0) ho rfl rfl
    have ha := ho.at_
    rw [e] at ha
    exact ⟨_, _, _, _, (by first | (rw [e]; done) | (rw [e]; rfl)), Lib.hid ha, hb⟩))
  go_enter Try.func9, Try.ntmps9
  obtain ⟨h, hh⟩ : ∃ h, w.heap.size = h := ⟨_, rfl⟩
  obtain ⟨w3, hw3⟩ : ∃ w3, ((w.alloc (.cells #[.int .i64 0, .int .i64 4] 46)).alloc (.cells #[.int .i64 7, .int .i64 11] 46)).alloc (.cells #[.slice (some ⟨h, 0, none⟩) 1 1, .slice (some ⟨h + 1, 0, none⟩) 1 1] 31) = w3 := ⟨_, rfl⟩
  have K3 : Below w.heap.size w w3 := by rw [← hw3]; exact (((Below.refl _ w).alloc (Nat.le_refl _) _).alloc (by first | (simp only [World.size_alloc]; omega) | omega) _).alloc (by first | (simp only [World.size_alloc]; omega) | omega) _
  have H3 : (doubleF (some ⟨h + 1 + 1, 0, none⟩) 2).At w3 := fv_mk (by decide) (co_block2 (g1 := h) (g2 := h + 1) (by rw [← hw3]; (repeat rw [old_al _ _ (by first | (simp only [World.size_alloc]; omega) | omega)]); exact heap_at (by first | (simp only [World.size_alloc]; omega) | omega)) (by rw [← hw3]; (repeat rw [old_al _ _ (by first | (simp only [World.size_alloc]; omega) | omega)]); exact heap_at (by first | (simp only [World.size_alloc]; omega) | omega)) (by rw [← hw3]; (repeat rw [old_al _ _ (by first | (simp only [World.size_alloc]; omega) | omega)]); exact heap_at (by first | (simp only [World.size_alloc]; omega) | omega))) (od_none _) (fun l hl => by simp at hl; rcases hl with rfl | rfl <;> decide) (fun o ho => by cases ho)
  go_wp2_with fail
  clear hw3
  (with_reducible refine (HDB.out _ _ _ H3).mono ?_)
  rintro e w4 ⟨ao, ac, ko, kc, rfl, HGA, q⟩
  have K4 := Lib.hid (K3.trans (q.mono K3.size))
  clear K3 H3 q hh HDB
  obtain ⟨j, hj⟩ : ∃ j, w4.heap.size = j := ⟨_, rfl⟩
  obtain ⟨w5, hw5⟩ : ∃ w5, ((((((((w4.alloc (.cells #[.int .i64 7, .int .i64 1, .slice ao 1 ac, .slice ko 0 kc] 25)).alloc (.cells #[.int .i64 0, .int .i64 1] 46)).alloc (.cells #[.int .i64 4, .int .i64 5] 46)).alloc (.cells #[.slice (some ⟨j + 1, 0, none⟩) 1 1, .slice (some ⟨j + 1 + 1, 0, none⟩) 1 1] 31)).alloc (.cells #[.int .i64 9, .int .i64 2, .slice (some ⟨j + 1 + 1 + 1, 0, none⟩) 2 2, .slice none 0 0] 25)).alloc (.cells #[.slice none 0 0, .slice none 0 0, .slice none 0 0] 31)).alloc (.cells #[.int .i64 1, .int .i64 2] 46)).alloc (.cells #[.int .i64 5, .slice (some ⟨j + 1 + 1 + 1 + 1 + 1 + 1, 0, none⟩) 1 1, .int .i64 6, .slice none 0 0] 43)) = w5 := ⟨_, rfl⟩
  have K5 : Below w4.heap.size w4 w5 := by rw [← hw5]; exact (((((((((Below.refl w4.heap.size w4).alloc (Nat.le_refl _) _).alloc (by first | (simp only [World.size_alloc]; omega) | omega) _).alloc (by first | (simp only [World.size_alloc]; omega) | omega) _).alloc (by first | (simp only [World.size_alloc]; omega) | omega) _).alloc (by first | (simp only [World.size_alloc]; omega) | omega) _).alloc (by first | (simp only [World.size_alloc]; omega) | omega) _).alloc (by first | (simp only [World.size_alloc]; omega) | omega) _).alloc (by first | (simp only [World.size_alloc]; omega) | omega) _)
  have KW := K4.out.trans (K5.mono K4.out.size)
  have FA : Fbox (weeksF 7 [] ao ac ko kc) w w5 j := fbox_at (HGA.out.keep K5) (by rw [← hw5]; (repeat rw [old_al _ _ (by first | (simp only [World.size_alloc]; omega) | omega)]); exact heap_at (by first | (simp only [World.size_alloc]; omega) | omega)) KW
  have FH : Fbox (halfF (some ⟨j + 1 + 1 + 1, 0, none⟩) 2) w w5 (j + 1 + 1 + 1 + 1) := fbox_at (fv_mk (by decide) (co_block2 (g1 := j + 1) (g2 := j + 1 + 1) (by rw [← hw5]; (repeat rw [old_al _ _ (by first | (simp only [World.size_alloc]; omega) | omega)]); exact heap_at (by first | (simp only [World.size_alloc]; omega) | omega)) (by rw [← hw5]; (repeat rw [old_al _ _ (by first | (simp only [World.size_alloc]; omega) | omega)]); exact heap_at (by first | (simp only [World.size_alloc]; omega) | omega)) (by rw [← hw5]; (repeat rw [old_al _ _ (by first | (simp only [World.size_alloc]; omega) | omega)]); exact heap_at (by first | (simp only [World.size_alloc]; omega) | omega))) (od_none _) (fun l hl => by simp at hl; rcases hl with rfl | rfl <;> decide) (fun o ho => by cases ho)) (by rw [← hw5]; (repeat rw [old_al _ _ (by first | (simp only [World.size_alloc]; omega) | omega)]); exact heap_at (by first | (simp only [World.size_alloc]; omega) | omega)) KW
  have H5 : (bareF (some ⟨j + 1 + 1 + 1 + 1 + 1, 0, none⟩) 3 (some ⟨j + 1 + 1 + 1 + 1 + 1 + 1 + 1, 0, none⟩) 2).At w5 := fv_mk (by decide) (co_block3 (by rw [← hw5]; (repeat rw [old_al _ _ (by first | (simp only [World.size_alloc]; omega) | omega)]); exact heap_at (by first | (simp only [World.size_alloc]; omega) | omega))) (od_block2 (g1 := j + 1 + 1 + 1 + 1 + 1 + 1) (by rw [← hw5]; (repeat rw [old_al _ _ (by first | (simp only [World.size_alloc]; omega) | omega)]); exact heap_at (by first | (simp only [World.size_alloc]; omega) | omega)) (by rw [← hw5]; (repeat rw [old_al _ _ (by first | (simp only [World.size_alloc]; omega) | omega)]); exact heap_at (by first | (simp only [World.size_alloc]; omega) | omega))) (fun l hl => by simp at hl; subst hl; decide) (fun o ho => by simp at ho; rcases ho with rfl | rfl <;> decide)
  go_wp2_with fail
  clear hw5
  (with_reducible refine (HBA.out _ _ _ _ _ H5).mono ?_)
  rintro e w6 ⟨bo, bc, lo, lc, rfl, HGB, q⟩
  have FA := Lib.hid (FA.keep q)
  have FH := Lib.hid (FH.keep q)
  clear K5 KW H5 q HBA HGA K4 hj
  obtain ⟨m, hm⟩ : ∃ m, w6.heap.size = m := ⟨_, rfl⟩
  go_wp2_with fail
  have K6 : Below w6.heap.size w6 (w6.alloc (.cells #[.int .i64 0, .int .i64 0, .slice bo 0 bc, .slice lo 1 lc] 25)) := (Below.refl _ _).alloc (Nat.le_refl _) _
  have FB : Fbox (lonelyF bo bc lo lc) w (w6.alloc (.cells #[.int .i64 0, .int .i64 0, .slice bo 0 bc, .slice lo 1 lc] 25)) m := fbox_at (HGB.out.keep K6) (by exact heap_at hm) (FA.out.bw.trans (K6.mono FA.out.bw.size))
  have FA2 := FA.out.keep K6
  have FH2 := FH.out.keep K6
  (with_reducible refine (HWK.out _).mono ?_)
  rintro e w7 ⟨co, cc, rfl, HCW, q⟩
  have FA := Lib.hid (FA2.keep q)
  have FH := Lib.hid (FH2.keep q)
  have FB := Lib.hid (FB.keep q)
  clear FA2 FH2 K6 HGB hm q
  obtain ⟨n, hn⟩ : ∃ n, w7.heap.size = n := ⟨_, rfl⟩
  go_upto_region 6 with fail
  obtain ⟨w8, hw8⟩ : ∃ w8, ((w7.alloc (.cells #[.int .i64 7, .int .i64 1, .slice co 1 cc, .slice (some ⟨n + 1 + 1, 0, none⟩) 1 1] 25)).alloc (.cells #[.int .i64 7, .int .i64 11] 46)).alloc (.cells #[.int .i64 1, .slice (some ⟨n + 1, 0, none⟩) 1 1] 43) = w8 := ⟨_, rfl⟩
  have K8 : Below w7.heap.size w7 w8 := by rw [← hw8]; exact (((Below.refl w7.heap.size w7).alloc (Nat.le_refl _) _).alloc (by first | (simp only [World.size_alloc]; omega) | omega) _).alloc (by first | (simp only [World.size_alloc]; omega) | omega) _
  have HE : Hid (Ex w w8 j (j + 1 + 1 + 1 + 1) m n (weeksF 7 [] ao ac ko kc) (halfF (some ⟨j + 1 + 1 + 1, 0, none⟩) 2) (lonelyF bo bc lo lc) (weeksF 7 [(1, [(7, 11)])] co cc (some ⟨n + 1 + 1, 0, none⟩) 1)) := Lib.hid ⟨FA.out.keep K8, FH.out.keep K8, FB.out.keep K8, fbox_at (fv_mk (by decide) (HCW.out.keep K8) (od_block1 (g1 := n + 1) (by rw [← hw8]; (repeat rw [old_al _ _ (by first | (simp only [World.size_alloc]; omega) | omega)]); exact heap_at (by first | (simp only [World.size_alloc]; omega) | omega)) (by rw [← hw8]; (repeat rw [old_al _ _ (by first | (simp only [World.size_alloc]; omega) | omega)]); exact heap_at (by first | (simp only [World.size_alloc]; omega) | omega)) (by decide)) (fun l hl => by simp at hl; subst hl; decide) (fun o ho => by simp at ho; subst ho; decide)) (by rw [← hw8]; (repeat rw [old_al _ _ (by first | (simp only [World.size_alloc]; omega) | omega)]); exact heap_at (by first | (simp only [World.size_alloc]; omega) | omega)) (FA.out.keep K8).bw⟩
  rw [hw8]
  clear hw8 K8 FA FH FB HCW hn
  have HS : Hid (∀ W, Ex w W j (j + 1 + 1 + 1 + 1) m n (weeksF 7 [] ao ac ko kc) (halfF (some ⟨j + 1 + 1 + 1, 0, none⟩) 2) (lonelyF bo bc lo lc) (weeksF 7 [(1, [(7, 11)])] co cc (some ⟨n + 1 + 1, 0, none⟩) 1) → W.cell? ⟨j, 0, none⟩ = some (.int .i64 7) ∧ W.cell? ⟨j, 1, none⟩ = some (.int .i64 1) ∧ W.cell? ⟨j, 2, none⟩ = some (.slice ao 1 ac) ∧ W.cell? ⟨j, 3, none⟩ = some (.slice ko 0 kc) ∧ W.cell? ⟨j + 1 + 1 + 1 + 1, 0, none⟩ = some (.int .i64 9) ∧ W.cell? ⟨j + 1 + 1 + 1 + 1, 1, none⟩ = some (.int .i64 2) ∧ W.cell? ⟨j + 1 + 1 + 1 + 1, 2, none⟩ = some (.slice (some ⟨j + 1 + 1 + 1, 0, none⟩) 2 2) ∧ W.cell? ⟨j + 1 + 1 + 1 + 1, 3, none⟩ = some (.slice none 0 0) ∧ W.cell? ⟨m, 0, none⟩ = some (.int .i64 0) ∧ W.cell? ⟨m, 1, none⟩ = some (.int .i64 0) ∧ W.cell? ⟨m, 2, none⟩ = some (.slice bo 0 bc) ∧ W.cell? ⟨m, 3, none⟩ = some (.slice lo 1 lc) ∧ W.cell? ⟨n, 0, none⟩ = some (.int .i64 7) ∧ W.cell? ⟨n, 1, none⟩ = some (.int .i64 1) ∧ W.cell? ⟨n, 2, none⟩ = some (.slice co 1 cc) ∧ W.cell? ⟨n, 3, none⟩ = some (.slice (some ⟨n + 1 + 1, 0, none⟩) 1 1) ∧ Hid (Ex w W j (j + 1 + 1 + 1 + 1) m n (weeksF 7 [] ao ac ko kc) (halfF (some ⟨j + 1 + 1 + 1, 0, none⟩) 2) (lonelyF bo bc lo lc) (weeksF 7 [(1, [(7, 11)])] co cc (some ⟨n + 1 + 1, 0, none⟩) 1))) := Lib.hid (fun W h => ⟨h.a.c0, h.a.c1, h.a.c2, h.a.c3, h.h.c0, h.h.c1, h.h.c2, h.h.c3, h.b.c0, h.b.c1, h.b.c2, h.b.c3, h.x.c0, h.x.c1, h.x.c2, h.x.c3, Lib.hid h⟩)
  have HAL1 : Hid (∀ W a b c d e f, (weeksF 7 [] a b c d).At W → CoAt W e 1 f [[(0, 4)]] → Calls Try.prog 13 #[.agg #[.int .i64 7, .int .i64 1, .slice a 1 b, .slice c 0 d], .agg #[.int .i64 7, .int .i64 1, .slice e 1 f, .slice none 0 0]] W fun e w' => e = .returned (.bool true) ∧ Below W.heap.size W w') := Lib.hid (fun W a b c d e f h k => alikeForms_any (weeksF 7 [] a b c d) (weeksF 7 [] e f none 0) W h (fv_mk (by decide) k (od_none _) (fun l hl => by simp at hl; subst hl; decide) (fun o ho => by cases ho)) true ⟨fun _ => ⟨rfl, rfl, rfl, rfl⟩, fun _ => rfl⟩)
  have HAL2 : Hid (∀ W g, (lonelyF bo bc lo lc).At W → OdAt W (some ⟨g, 0, none⟩) 1 1 [(5, [(1, 2)])] → Calls Try.prog 13 #[.agg #[.int .i64 0, .int .i64 0, .slice bo 0 bc, .slice lo 1 lc], .agg #[.int .i64 0, .int .i64 0, .slice none 0 0, .slice (some ⟨g, 0, none⟩) 1 1]] W fun e w' => e = .returned (.bool true) ∧ Below W.heap.size W w') := Lib.hid (fun W g h k => alikeForms_any (lonelyF bo bc lo lc) (lonelyF none 0 (some ⟨g, 0, none⟩) 1) W h (fv_mk (by decide) (co_none _) k (fun l hl => by cases hl) (fun o ho => by simp at ho; subst ho; decide)) true ⟨fun _ => ⟨rfl, rfl, rfl, rfl⟩, fun _ => rfl⟩)
  have HIH : Hid (∀ W, (halfF (some ⟨j + 1 + 1 + 1, 0, none⟩) 2).At W → Calls Try.prog 14 #[.agg #[.int .i64 9, .int .i64 2, .slice (some ⟨j + 1 + 1 + 1, 0, none⟩) 2 2, .slice none 0 0]] W fun e w' => e = .returned (.bool true) ∧ Below W.heap.size W w') := Lib.hid (fun W h => is_ok (halfF (some ⟨j + 1 + 1 + 1, 0, none⟩) 2) (mid_half _ _) (rt_half _ _) W h true ⟨fun _ => ⟨turn_half, fun o ho => by cases ho⟩, fun _ => rfl⟩)
  have HIX : Hid (∀ W, (weeksF 7 [(1, [(7, 11)])] co cc (some ⟨n + 1 + 1, 0, none⟩) 1).At W → Calls Try.prog 14 #[.agg #[.int .i64 7, .int .i64 1, .slice co 1 cc, .slice (some ⟨n + 1 + 1, 0, none⟩) 1 1]] W fun e w' => e = .returned (.bool false) ∧ Below W.heap.size W w') := Lib.hid (fun W h => is_ok (weeksF 7 [(1, [(7, 11)])] co cc (some ⟨n + 1 + 1, 0, none⟩) 1) (mid_weeksX _ _ _ _) (rt_weeksX _ _ _ _) W h false ⟨fun z => (by cases z), fun z => absurd (show [(7, 11)] = cg [[(0, 4)]] 7 1 1 by decide) (z.2 (1, [(7, 11)]) List.mem_cons_self)⟩)
  have HS1 : Hid (∀ W, (weeksF 7 [(1, [(7, 11)])] co cc (some ⟨n + 1 + 1, 0, none⟩) 1).At W → (weeksF 7 [] ao ac ko kc).At W → Calls Try.prog 18 #[.agg #[.int .i64 7, .int .i64 1, .slice co 1 cc, .slice (some ⟨n + 1 + 1, 0, none⟩) 1 1], .agg #[.int .i64 7, .int .i64 1, .slice ao 1 ac, .slice ko 0 kc]] W fun e w' => e = .returned (.bool true) ∧ Below W.heap.size W w') := Lib.hid (fun W h k => same_ok (weeksF 7 [(1, [(7, 11)])] co cc (some ⟨n + 1 + 1, 0, none⟩) 1) (weeksF 7 [] ao ac ko kc) (mid_weeksX _ _ _ _) (mid_weeks _ _ _ _) (rt_weeksX _ _ _ _) (rt_weeks _ _ _ _) W h k true ⟨fun _ => (canEq_iff (can_weeksX _ _ _ _ none 0 none 0) (can_weeks _ _ _ _ none 0 none 0)).2 ⟨rfl, rfl, rfl, rfl⟩, fun _ => rfl⟩)
  have HS2 : Hid (∀ W, (weeksF 7 [(1, [(7, 11)])] co cc (some ⟨n + 1 + 1, 0, none⟩) 1).At W → (halfF (some ⟨j + 1 + 1 + 1, 0, none⟩) 2).At W → Calls Try.prog 18 #[.agg #[.int .i64 7, .int .i64 1, .slice co 1 cc, .slice (some ⟨n + 1 + 1, 0, none⟩) 1 1], .agg #[.int .i64 9, .int .i64 2, .slice (some ⟨j + 1 + 1 + 1, 0, none⟩) 2 2, .slice none 0 0]] W fun e w' => e = .returned (.bool false) ∧ Below W.heap.size W w') := Lib.hid (fun W h k => same_ok (weeksF 7 [(1, [(7, 11)])] co cc (some ⟨n + 1 + 1, 0, none⟩) 1) (halfF (some ⟨j + 1 + 1 + 1, 0, none⟩) 2) (mid_weeksX _ _ _ _) (mid_half _ _) (rt_weeksX _ _ _ _) (rt_half _ _) W h k false ⟨fun z => (by cases z), fun z => absurd z (canEq_wh _ _ _ _ _ _)⟩)
  refine wp_region_held_drew (S := (fun W => W.cell? ⟨j, 0, none⟩ = some (.int .i64 7) ∧ W.cell? ⟨j, 1, none⟩ = some (.int .i64 1) ∧ W.cell? ⟨j, 2, none⟩ = some (.slice ao 1 ac) ∧ W.cell? ⟨j, 3, none⟩ = some (.slice ko 0 kc) ∧ W.cell? ⟨j + 1 + 1 + 1 + 1, 0, none⟩ = some (.int .i64 9) ∧ W.cell? ⟨j + 1 + 1 + 1 + 1, 1, none⟩ = some (.int .i64 2) ∧ W.cell? ⟨j + 1 + 1 + 1 + 1, 2, none⟩ = some (.slice (some ⟨j + 1 + 1 + 1, 0, none⟩) 2 2) ∧ W.cell? ⟨j + 1 + 1 + 1 + 1, 3, none⟩ = some (.slice none 0 0) ∧ W.cell? ⟨m, 0, none⟩ = some (.int .i64 0) ∧ W.cell? ⟨m, 1, none⟩ = some (.int .i64 0) ∧ W.cell? ⟨m, 2, none⟩ = some (.slice bo 0 bc) ∧ W.cell? ⟨m, 3, none⟩ = some (.slice lo 1 lc) ∧ W.cell? ⟨n, 0, none⟩ = some (.int .i64 7) ∧ W.cell? ⟨n, 1, none⟩ = some (.int .i64 1) ∧ W.cell? ⟨n, 2, none⟩ = some (.slice co 1 cc) ∧ W.cell? ⟨n, 3, none⟩ = some (.slice (some ⟨n + 1 + 1, 0, none⟩) 1 1) ∧ Hid (Ex w W j (j + 1 + 1 + 1 + 1) m n (weeksF 7 [] ao ac ko kc) (halfF (some ⟨j + 1 + 1 + 1, 0, none⟩) 2) (lonelyF bo bc lo lc) (weeksF 7 [(1, [(7, 11)])] co cc (some ⟨n + 1 + 1, 0, none⟩) 1)))) (by kernel_rfl) ?_ (fun hHeld => ?_)
  · exact HS.out _ (HE.out.keep (Below.refl _ _).drew)
  refine wpAnyH_take (i := 0) (oi := _) (v := ?_) rfl (by kernel_rfl) (by kernel_rfl) (by kernel_rfl) (fun _ _ _ h => h) (Or.inl ⟨by kernel_rfl, ?_⟩) (by assumption) ?_
  rotate_left 1
  focus (intro wq hSw; (try dsimp only at hSw); obtain ⟨s0, s1, s2, s3, s4, s5, s6, s7, s8, s9, s10, s11, s12, s13, s14, s15, s16⟩ := hSw; go_simp; (try with_reducible rfl); done)
  try simp only [List.getElem_toArray, List.getElem_cons_zero, List.getElem_cons_succ, Act.put, List.setIfInBounds_toArray, List.set_cons_zero, List.set_cons_succ]
  refine wpAnyH_ready (rs := [1]) (by kernel_rfl) (by simp) ?_
  refine AllReadyH.cons (o := _) rfl (fun K hK => ?_) AllReadyH.nil
  rw [if_pos (by kernel_rfl)]
  go_simp
  (go_at_call 22; (with_reducible refine (HWK.out _).mono ?_); rintro e z1 ⟨c1, d1, rfl, HC1, q⟩)
  first | refine hK.out _ _ ?_ (fun hHeld => ?_) | (go_wp2_with fail; refine hK.out _ _ ?_ (fun hHeld => ?_))
  · exact HS.out _ (hHeld.2.2.2.2.2.2.2.2.2.2.2.2.2.2.2.2.out.keep q)
  clear hK K
  try simp only [List.getElem_toArray, List.getElem_cons_zero, List.getElem_cons_succ, Act.put, List.setIfInBounds_toArray, List.set_cons_zero, List.set_cons_succ]
  refine wpAnyH_ready (rs := [2]) (by kernel_rfl) (by simp) ?_
  refine AllReadyH.cons (o := _) rfl (fun K hK => ?_) AllReadyH.nil
  rw [if_pos (by kernel_rfl)]
  go_simp
  (go_at_call 13; (with_reducible refine (HAL1.out _ _ _ _ _ c1 d1 hHeld.2.2.2.2.2.2.2.2.2.2.2.2.2.2.2.2.out.a.at_ HC1.out).mono ?_); rintro e z2 ⟨rfl, q⟩; clear HC1)
  first | refine hK.out _ _ ?_ (fun hHeld => ?_) | (go_wp2_with fail; refine hK.out _ _ ?_ (fun hHeld => ?_))
  · exact HS.out _ (hHeld.2.2.2.2.2.2.2.2.2.2.2.2.2.2.2.2.out.keep q)
  clear hK K
  try simp only [List.getElem_toArray, List.getElem_cons_zero, List.getElem_cons_succ, Act.put, List.setIfInBounds_toArray, List.set_cons_zero, List.set_cons_succ]
  refine wpAnyH_take (i := 3) (oi := _) (v := ?_) rfl (by kernel_rfl) (by kernel_rfl) (by kernel_rfl) (fun _ _ _ h => h) (Or.inl ⟨by kernel_rfl, ?_⟩) (by assumption) ?_
  rotate_left 1
  focus (intro wq hSw; (try dsimp only at hSw); obtain ⟨s0, s1, s2, s3, s4, s5, s6, s7, s8, s9, s10, s11, s12, s13, s14, s15, s16⟩ := hSw; go_simp; (try with_reducible rfl); done)
  try simp only [List.getElem_toArray, List.getElem_cons_zero, List.getElem_cons_succ, Act.put, List.setIfInBounds_toArray, List.set_cons_zero, List.set_cons_succ]
  refine wpAnyH_take (i := 4) (oi := _) (v := ?_) rfl (by kernel_rfl) (by kernel_rfl) (by kernel_rfl) (fun _ _ _ h => h) (Or.inl ⟨by kernel_rfl, ?_⟩) (by assumption) ?_
  rotate_left 1
  focus (intro wq hSw; (try dsimp only at hSw); obtain ⟨s0, s1, s2, s3, s4, s5, s6, s7, s8, s9, s10, s11, s12, s13, s14, s15, s16⟩ := hSw; go_simp; (try with_reducible rfl); done)
  try simp only [List.getElem_toArray, List.getElem_cons_zero, List.getElem_cons_succ, Act.put, List.setIfInBounds_toArray, List.set_cons_zero, List.set_cons_succ]
  refine wpAnyH_ready (rs := [5]) (by kernel_rfl) (by simp) ?_
  refine AllReadyH.cons (o := _) rfl (fun K hK => ?_) AllReadyH.nil
  rw [if_pos (by kernel_rfl)]
  go_simp
  (go_at_call 14; (with_reducible refine (HIH.out _ hHeld.2.2.2.2.2.2.2.2.2.2.2.2.2.2.2.2.out.h.at_).mono ?_); rintro e z3 ⟨rfl, q⟩; clear HIH; obtain ⟨r3, hr3⟩ : ∃ r, z3.heap.size = r := ⟨_, rfl⟩)
  first | refine hK.out _ _ ?_ (fun hHeld => ?_) | (go_wp2_with fail; refine hK.out _ _ ?_ (fun hHeld => ?_))
  · exact HS.out _ (hHeld.2.2.2.2.2.2.2.2.2.2.2.2.2.2.2.2.out.keep q)
  clear hK K
  try simp only [List.getElem_toArray, List.getElem_cons_zero, List.getElem_cons_succ, Act.put, List.setIfInBounds_toArray, List.set_cons_zero, List.set_cons_succ]
  refine wpAnyH_take (i := 6) (oi := _) (v := ?_) rfl (by kernel_rfl) (by kernel_rfl) (by kernel_rfl) (fun _ _ _ h => h) (Or.inl ⟨by kernel_rfl, ?_⟩) (by assumption) ?_
  rotate_left 1
  focus (intro wq hSw; (try dsimp only at hSw); obtain ⟨s0, s1, s2, s3, s4, s5, s6, s7, s8, s9, s10, s11, s12, s13, s14, s15, s16⟩ := hSw; go_simp; (try with_reducible rfl); done)
  try simp only [List.getElem_toArray, List.getElem_cons_zero, List.getElem_cons_succ, Act.put, List.setIfInBounds_toArray, List.set_cons_zero, List.set_cons_succ]
  refine wpAnyH_take (i := 7) (oi := _) (v := ?_) rfl (by kernel_rfl) (by kernel_rfl) (by kernel_rfl) (fun _ _ _ h => h) (Or.inl ⟨by kernel_rfl, ?_⟩) (by assumption) ?_
  rotate_left 1
  focus (intro wq hSw; (try dsimp only at hSw); obtain ⟨s0, s1, s2, s3, s4, s5, s6, s7, s8, s9, s10, s11, s12, s13, s14, s15, s16⟩ := hSw; go_simp; (try with_reducible rfl); done)
  try simp only [List.getElem_toArray, List.getElem_cons_zero, List.getElem_cons_succ, Act.put, List.setIfInBounds_toArray, List.set_cons_zero, List.set_cons_succ]
  refine wpAnyH_take (i := 8) (oi := _) (v := ?_) rfl (by kernel_rfl) (by kernel_rfl) (by kernel_rfl) (fun _ _ _ h => h) (Or.inl ⟨by kernel_rfl, ?_⟩) (by assumption) ?_
  rotate_left 1
  focus (intro wq hSw; (try dsimp only at hSw); obtain ⟨s0, s1, s2, s3, s4, s5, s6, s7, s8, s9, s10, s11, s12, s13, s14, s15, s16⟩ := hSw; go_simp; (try with_reducible rfl); done)
  try simp only [List.getElem_toArray, List.getElem_cons_zero, List.getElem_cons_succ, Act.put, List.setIfInBounds_toArray, List.set_cons_zero, List.set_cons_succ]
  refine wpAnyH_take (i := 9) (oi := _) (v := ?_) rfl (by kernel_rfl) (by kernel_rfl) (by kernel_rfl) (fun _ _ _ h => h) (Or.inl ⟨by kernel_rfl, ?_⟩) (by assumption) ?_
  rotate_left 1
  focus (intro wq hSw; (try dsimp only at hSw); obtain ⟨s0, s1, s2, s3, s4, s5, s6, s7, s8, s9, s10, s11, s12, s13, s14, s15, s16⟩ := hSw; go_simp; (try with_reducible rfl); done)
  try simp only [List.getElem_toArray, List.getElem_cons_zero, List.getElem_cons_succ, Act.put, List.setIfInBounds_toArray, List.set_cons_zero, List.set_cons_succ]
  refine wpAnyH_ready (rs := [10]) (by kernel_rfl) (by simp) ?_
  refine AllReadyH.cons (o := _) rfl (fun K hK => ?_) AllReadyH.nil
  rw [if_pos (by kernel_rfl)]
  go_simp
  have q := (Below.refl z3.heap.size z3).alloc (Nat.le_refl _) (.cells #[.int .i64 1, .int .i64 2] 46)
  first | refine hK.out _ _ ?_ (fun hHeld => ?_) | (go_wp2_with fail; refine hK.out _ _ ?_ (fun hHeld => ?_))
  · exact HS.out _ (hHeld.2.2.2.2.2.2.2.2.2.2.2.2.2.2.2.2.out.keep q)
  clear hK K
  try simp only [List.getElem_toArray, List.getElem_cons_zero, List.getElem_cons_succ, Act.put, List.setIfInBounds_toArray, List.set_cons_zero, List.set_cons_succ]
  refine wpAnyH_take (i := 11) (oi := _) (v := ?_) rfl (by kernel_rfl) (by kernel_rfl) (by kernel_rfl) (fun _ _ _ h => h) (Or.inl ⟨by kernel_rfl, ?_⟩) (by assumption) ?_
  rotate_left 1
  focus (intro wq hSw; (try dsimp only at hSw); obtain ⟨s0, s1, s2, s3, s4, s5, s6, s7, s8, s9, s10, s11, s12, s13, s14, s15, s16⟩ := hSw; go_simp; (try with_reducible rfl); done)
  try simp only [List.getElem_toArray, List.getElem_cons_zero, List.getElem_cons_succ, Act.put, List.setIfInBounds_toArray, List.set_cons_zero, List.set_cons_succ]
  refine wpAnyH_ready (rs := [12]) (by kernel_rfl) (by simp) ?_
  refine AllReadyH.cons (o := _) rfl (fun K hK => ?_) AllReadyH.nil
  rw [if_pos (by kernel_rfl)]
  go_simp
  have q := (Below.refl (z3.alloc (.cells #[.int .i64 1, .int .i64 2] 46)).heap.size (z3.alloc (.cells #[.int .i64 1, .int .i64 2] 46))).alloc (Nat.le_refl _) (.cells #[.int .i64 5, .slice (some ⟨r3, 0, none⟩) 1 1] 43)
  first | refine hK.out _ _ ?_ (fun hHeld => ?_) | (go_wp2_with fail; refine hK.out _ _ ?_ (fun hHeld => ?_))
  · exact HS.out _ (hHeld.2.2.2.2.2.2.2.2.2.2.2.2.2.2.2.2.out.keep q)
  clear hK K
  try simp only [List.getElem_toArray, List.getElem_cons_zero, List.getElem_cons_succ, Act.put, List.setIfInBounds_toArray, List.set_cons_zero, List.set_cons_succ]
  refine wpAnyH_take (i := 13) (oi := _) (v := ?_) rfl (by kernel_rfl) (by kernel_rfl) (by kernel_rfl) (fun _ _ _ h => h) (Or.inl ⟨by kernel_rfl, ?_⟩) (by assumption) ?_
  rotate_left 1
  focus (intro wq hSw; (try dsimp only at hSw); obtain ⟨s0, s1, s2, s3, s4, s5, s6, s7, s8, s9, s10, s11, s12, s13, s14, s15, s16⟩ := hSw; go_simp; (try with_reducible rfl); done)
  try simp only [List.getElem_toArray, List.getElem_cons_zero, List.getElem_cons_succ, Act.put, List.setIfInBounds_toArray, List.set_cons_zero, List.set_cons_succ]
  refine wpAnyH_ready (rs := [14]) (by kernel_rfl) (by simp) ?_
  refine AllReadyH.cons (o := _) rfl (fun K hK => ?_) AllReadyH.nil
  rw [if_pos (by kernel_rfl)]
  go_simp
  (go_at_call 13; (with_reducible refine (HAL2.out _ _ hHeld.2.2.2.2.2.2.2.2.2.2.2.2.2.2.2.2.out.b.at_ (od_block1 (g1 := r3) (by (repeat rw [old_al _ _ (by first | (simp only [World.size_alloc]; omega) | omega)]); exact heap_at (by first | (simp only [World.size_alloc]; omega) | omega)) (by (repeat rw [old_al _ _ (by first | (simp only [World.size_alloc]; omega) | omega)]); exact heap_at (by first | (simp only [World.size_alloc]; omega) | omega)) (by decide))).mono ?_); rintro e z4 ⟨rfl, q⟩; clear hr3 HAL2)
  first | refine hK.out _ _ ?_ (fun hHeld => ?_) | (go_wp2_with fail; refine hK.out _ _ ?_ (fun hHeld => ?_))
  · exact HS.out _ (hHeld.2.2.2.2.2.2.2.2.2.2.2.2.2.2.2.2.out.keep q)
  clear hK K
  try simp only [List.getElem_toArray, List.getElem_cons_zero, List.getElem_cons_succ, Act.put, List.setIfInBounds_toArray, List.set_cons_zero, List.set_cons_succ]
  refine wpAnyH_take (i := 15) (oi := _) (v := ?_) rfl (by kernel_rfl) (by kernel_rfl) (by kernel_rfl) (fun _ _ _ h => h) (Or.inl ⟨by kernel_rfl, ?_⟩) (by assumption) ?_
  rotate_left 1
  focus (intro wq hSw; (try dsimp only at hSw); obtain ⟨s0, s1, s2, s3, s4, s5, s6, s7, s8, s9, s10, s11, s12, s13, s14, s15, s16⟩ := hSw; go_simp; (try with_reducible rfl); done)
  try simp only [List.getElem_toArray, List.getElem_cons_zero, List.getElem_cons_succ, Act.put, List.setIfInBounds_toArray, List.set_cons_zero, List.set_cons_succ]
  refine wpAnyH_take (i := 16) (oi := _) (v := ?_) rfl (by kernel_rfl) (by kernel_rfl) (by kernel_rfl) (fun _ _ _ h => h) (Or.inl ⟨by kernel_rfl, ?_⟩) (by assumption) ?_
  rotate_left 1
  focus (intro wq hSw; (try dsimp only at hSw); obtain ⟨s0, s1, s2, s3, s4, s5, s6, s7, s8, s9, s10, s11, s12, s13, s14, s15, s16⟩ := hSw; go_simp; (try with_reducible rfl); done)
  try simp only [List.getElem_toArray, List.getElem_cons_zero, List.getElem_cons_succ, Act.put, List.setIfInBounds_toArray, List.set_cons_zero, List.set_cons_succ]
  refine wpAnyH_take (i := 17) (oi := _) (v := ?_) rfl (by kernel_rfl) (by kernel_rfl) (by kernel_rfl) (fun _ _ _ h => h) (Or.inl ⟨by kernel_rfl, ?_⟩) (by assumption) ?_
  rotate_left 1
  focus (intro wq hSw; (try dsimp only at hSw); obtain ⟨s0, s1, s2, s3, s4, s5, s6, s7, s8, s9, s10, s11, s12, s13, s14, s15, s16⟩ := hSw; go_simp; (try with_reducible rfl); done)
  try simp only [List.getElem_toArray, List.getElem_cons_zero, List.getElem_cons_succ, Act.put, List.setIfInBounds_toArray, List.set_cons_zero, List.set_cons_succ]
  refine wpAnyH_ready (rs := [18]) (by kernel_rfl) (by simp) ?_
  refine AllReadyH.cons (o := _) rfl (fun K hK => ?_) AllReadyH.nil
  rw [if_pos (by kernel_rfl)]
  go_simp
  (go_at_call 11; (with_reducible refine (HWX.out _ _ _ _ _ hHeld.2.2.2.2.2.2.2.2.2.2.2.2.2.2.2.2.out.x.at_).mono ?_); rintro e z5 ⟨a5, b5, c5, d5, rfl, HG5, q⟩)
  first | refine hK.out _ _ ?_ (fun hHeld => ?_) | (go_wp2_with fail; refine hK.out _ _ ?_ (fun hHeld => ?_))
  · exact HS.out _ (hHeld.2.2.2.2.2.2.2.2.2.2.2.2.2.2.2.2.out.keep q)
  clear hK K
  try simp only [List.getElem_toArray, List.getElem_cons_zero, List.getElem_cons_succ, Act.put, List.setIfInBounds_toArray, List.set_cons_zero, List.set_cons_succ]
  refine wpAnyH_ready (rs := [19]) (by kernel_rfl) (by simp) ?_
  refine AllReadyH.cons (o := _) rfl (fun K hK => ?_) AllReadyH.nil
  rw [if_pos (by kernel_rfl)]
  go_simp
  (go_at_call 22; (with_reducible refine (HWK.out _).mono ?_); rintro e z6 ⟨c6, d6, rfl, HC6, q⟩; have HG5 := Lib.hid (HG5.out.keep q))
  first | refine hK.out _ _ ?_ (fun hHeld => ?_) | (go_wp2_with fail; refine hK.out _ _ ?_ (fun hHeld => ?_))
  · exact HS.out _ (hHeld.2.2.2.2.2.2.2.2.2.2.2.2.2.2.2.2.out.keep q)
  clear hK K
  try simp only [List.getElem_toArray, List.getElem_cons_zero, List.getElem_cons_succ, Act.put, List.setIfInBounds_toArray, List.set_cons_zero, List.set_cons_succ]
  refine wpAnyH_ready (rs := [20]) (by kernel_rfl) (by simp) ?_
  refine AllReadyH.cons (o := _) rfl (fun K hK => ?_) AllReadyH.nil
  rw [if_pos (by kernel_rfl)]
  go_simp
  (go_at_call 13; (with_reducible refine (HAL1.out _ _ _ _ _ c6 d6 HG5.out HC6.out).mono ?_); rintro e z7 ⟨rfl, q⟩; clear HG5 HC6 HAL1)
  first | refine hK.out _ _ ?_ (fun hHeld => ?_) | (go_wp2_with fail; refine hK.out _ _ ?_ (fun hHeld => ?_))
  · exact HS.out _ (hHeld.2.2.2.2.2.2.2.2.2.2.2.2.2.2.2.2.out.keep q)
  clear hK K
  try simp only [List.getElem_toArray, List.getElem_cons_zero, List.getElem_cons_succ, Act.put, List.setIfInBounds_toArray, List.set_cons_zero, List.set_cons_succ]
  refine wpAnyH_take (i := 21) (oi := _) (v := ?_) rfl (by kernel_rfl) (by kernel_rfl) (by kernel_rfl) (fun _ _ _ h => h) (Or.inl ⟨by kernel_rfl, ?_⟩) (by assumption) ?_
  rotate_left 1
  focus (intro wq hSw; (try dsimp only at hSw); obtain ⟨s0, s1, s2, s3, s4, s5, s6, s7, s8, s9, s10, s11, s12, s13, s14, s15, s16⟩ := hSw; go_simp; (try with_reducible rfl); done)
  try simp only [List.getElem_toArray, List.getElem_cons_zero, List.getElem_cons_succ, Act.put, List.setIfInBounds_toArray, List.set_cons_zero, List.set_cons_succ]
  refine wpAnyH_take (i := 22) (oi := _) (v := ?_) rfl (by kernel_rfl) (by kernel_rfl) (by kernel_rfl) (fun _ _ _ h => h) (Or.inl ⟨by kernel_rfl, ?_⟩) (by assumption) ?_
  rotate_left 1
  focus (intro wq hSw; (try dsimp only at hSw); obtain ⟨s0, s1, s2, s3, s4, s5, s6, s7, s8, s9, s10, s11, s12, s13, s14, s15, s16⟩ := hSw; go_simp; (try with_reducible rfl); done)
  try simp only [List.getElem_toArray, List.getElem_cons_zero, List.getElem_cons_succ, Act.put, List.setIfInBounds_toArray, List.set_cons_zero, List.set_cons_succ]
  refine wpAnyH_take (i := 23) (oi := _) (v := ?_) rfl (by kernel_rfl) (by kernel_rfl) (by kernel_rfl) (fun _ _ _ h => h) (Or.inl ⟨by kernel_rfl, ?_⟩) (by assumption) ?_
  rotate_left 1
  focus (intro wq hSw; (try dsimp only at hSw); obtain ⟨s0, s1, s2, s3, s4, s5, s6, s7, s8, s9, s10, s11, s12, s13, s14, s15, s16⟩ := hSw; go_simp; (try with_reducible rfl); done)
  try simp only [List.getElem_toArray, List.getElem_cons_zero, List.getElem_cons_succ, Act.put, List.setIfInBounds_toArray, List.set_cons_zero, List.set_cons_succ]
  refine wpAnyH_ready (rs := [24]) (by kernel_rfl) (by simp) ?_
  refine AllReadyH.cons (o := _) rfl (fun K hK => ?_) AllReadyH.nil
  rw [if_pos (by kernel_rfl)]
  go_simp
  (go_at_call 14; (with_reducible refine (HIX.out _ hHeld.2.2.2.2.2.2.2.2.2.2.2.2.2.2.2.2.out.x.at_).mono ?_); rintro e z8 ⟨rfl, q⟩; clear HIX)
  first | refine hK.out _ _ ?_ (fun hHeld => ?_) | (go_wp2_with fail; refine hK.out _ _ ?_ (fun hHeld => ?_))
  · exact HS.out _ (hHeld.2.2.2.2.2.2.2.2.2.2.2.2.2.2.2.2.out.keep q)
  clear hK K
  try simp only [List.getElem_toArray, List.getElem_cons_zero, List.getElem_cons_succ, Act.put, List.setIfInBounds_toArray, List.set_cons_zero, List.set_cons_succ]
  refine wpAnyH_take (i := 25) (oi := _) (v := ?_) rfl (by kernel_rfl) (by kernel_rfl) (by kernel_rfl) (fun _ _ _ h => h) (Or.inl ⟨by kernel_rfl, ?_⟩) (by assumption) ?_
  rotate_left 1
  focus (intro wq hSw; (try dsimp only at hSw); obtain ⟨s0, s1, s2, s3, s4, s5, s6, s7, s8, s9, s10, s11, s12, s13, s14, s15, s16⟩ := hSw; go_simp; (try with_reducible rfl); done)
  try simp only [List.getElem_toArray, List.getElem_cons_zero, List.getElem_cons_succ, Act.put, List.setIfInBounds_toArray, List.set_cons_zero, List.set_cons_succ]
  refine wpAnyH_take (i := 26) (oi := _) (v := ?_) rfl (by kernel_rfl) (by kernel_rfl) (by kernel_rfl) (fun _ _ _ h => h) (Or.inl ⟨by kernel_rfl, ?_⟩) (by assumption) ?_
  rotate_left 1
  focus (intro wq hSw; (try dsimp only at hSw); obtain ⟨s0, s1, s2, s3, s4, s5, s6, s7, s8, s9, s10, s11, s12, s13, s14, s15, s16⟩ := hSw; go_simp; (try with_reducible rfl); done)
  try simp only [List.getElem_toArray, List.getElem_cons_zero, List.getElem_cons_succ, Act.put, List.setIfInBounds_toArray, List.set_cons_zero, List.set_cons_succ]
  refine wpAnyH_take (i := 27) (oi := _) (v := ?_) rfl (by kernel_rfl) (by kernel_rfl) (by kernel_rfl) (fun _ _ _ h => h) (Or.inl ⟨by kernel_rfl, ?_⟩) (by assumption) ?_
  rotate_left 1
  focus (intro wq hSw; (try dsimp only at hSw); obtain ⟨s0, s1, s2, s3, s4, s5, s6, s7, s8, s9, s10, s11, s12, s13, s14, s15, s16⟩ := hSw; go_simp; (try with_reducible rfl); done)
  try simp only [List.getElem_toArray, List.getElem_cons_zero, List.getElem_cons_succ, Act.put, List.setIfInBounds_toArray, List.set_cons_zero, List.set_cons_succ]
  refine wpAnyH_take (i := 28) (oi := _) (v := ?_) rfl (by kernel_rfl) (by kernel_rfl) (by kernel_rfl) (fun _ _ _ h => h) (Or.inl ⟨by kernel_rfl, ?_⟩) (by assumption) ?_
  rotate_left 1
  focus (intro wq hSw; (try dsimp only at hSw); obtain ⟨s0, s1, s2, s3, s4, s5, s6, s7, s8, s9, s10, s11, s12, s13, s14, s15, s16⟩ := hSw; go_simp; (try with_reducible rfl); done)
  try simp only [List.getElem_toArray, List.getElem_cons_zero, List.getElem_cons_succ, Act.put, List.setIfInBounds_toArray, List.set_cons_zero, List.set_cons_succ]
  refine wpAnyH_take (i := 29) (oi := _) (v := ?_) rfl (by kernel_rfl) (by kernel_rfl) (by kernel_rfl) (fun _ _ _ h => h) (Or.inl ⟨by kernel_rfl, ?_⟩) (by assumption) ?_
  rotate_left 1
  focus (intro wq hSw; (try dsimp only at hSw); obtain ⟨s0, s1, s2, s3, s4, s5, s6, s7, s8, s9, s10, s11, s12, s13, s14, s15, s16⟩ := hSw; go_simp; (try with_reducible rfl); done)
  try simp only [List.getElem_toArray, List.getElem_cons_zero, List.getElem_cons_succ, Act.put, List.setIfInBounds_toArray, List.set_cons_zero, List.set_cons_succ]
  refine wpAnyH_ready (rs := [30]) (by kernel_rfl) (by simp) ?_
  refine AllReadyH.cons (o := _) rfl (fun K hK => ?_) AllReadyH.nil
  rw [if_pos (by kernel_rfl)]
  go_simp
  (go_at_call 18; (with_reducible refine (HS1.out _ hHeld.2.2.2.2.2.2.2.2.2.2.2.2.2.2.2.2.out.x.at_ hHeld.2.2.2.2.2.2.2.2.2.2.2.2.2.2.2.2.out.a.at_).mono ?_); rintro e z9 ⟨rfl, q⟩; clear HS1)
  first | refine hK.out _ _ ?_ (fun hHeld => ?_) | (go_wp2_with fail; refine hK.out _ _ ?_ (fun hHeld => ?_))
  · exact HS.out _ (hHeld.2.2.2.2.2.2.2.2.2.2.2.2.2.2.2.2.out.keep q)
  clear hK K
  try simp only [List.getElem_toArray, List.getElem_cons_zero, List.getElem_cons_succ, Act.put, List.setIfInBounds_toArray, List.set_cons_zero, List.set_cons_succ]
  refine wpAnyH_take (i := 31) (oi := _) (v := ?_) rfl (by kernel_rfl) (by kernel_rfl) (by kernel_rfl) (fun _ _ _ h => h) (Or.inl ⟨by kernel_rfl, ?_⟩) (by assumption) ?_
  rotate_left 1
  focus (intro wq hSw; (try dsimp only at hSw); obtain ⟨s0, s1, s2, s3, s4, s5, s6, s7, s8, s9, s10, s11, s12, s13, s14, s15, s16⟩ := hSw; go_simp; (try with_reducible rfl); done)
  try simp only [List.getElem_toArray, List.getElem_cons_zero, List.getElem_cons_succ, Act.put, List.setIfInBounds_toArray, List.set_cons_zero, List.set_cons_succ]
  refine wpAnyH_take (i := 32) (oi := _) (v := ?_) rfl (by kernel_rfl) (by kernel_rfl) (by kernel_rfl) (fun _ _ _ h => h) (Or.inl ⟨by kernel_rfl, ?_⟩) (by assumption) ?_
  rotate_left 1
  focus (intro wq hSw; (try dsimp only at hSw); obtain ⟨s0, s1, s2, s3, s4, s5, s6, s7, s8, s9, s10, s11, s12, s13, s14, s15, s16⟩ := hSw; go_simp; (try with_reducible rfl); done)
  try simp only [List.getElem_toArray, List.getElem_cons_zero, List.getElem_cons_succ, Act.put, List.setIfInBounds_toArray, List.set_cons_zero, List.set_cons_succ]
  refine wpAnyH_take (i := 33) (oi := _) (v := ?_) rfl (by kernel_rfl) (by kernel_rfl) (by kernel_rfl) (fun _ _ _ h => h) (Or.inl ⟨by kernel_rfl, ?_⟩) (by assumption) ?_
  rotate_left 1
  focus (intro wq hSw; (try dsimp only at hSw); obtain ⟨s0, s1, s2, s3, s4, s5, s6, s7, s8, s9, s10, s11, s12, s13, s14, s15, s16⟩ := hSw; go_simp; (try with_reducible rfl); done)
  try simp only [List.getElem_toArray, List.getElem_cons_zero, List.getElem_cons_succ, Act.put, List.setIfInBounds_toArray, List.set_cons_zero, List.set_cons_succ]
  refine wpAnyH_take (i := 34) (oi := _) (v := ?_) rfl (by kernel_rfl) (by kernel_rfl) (by kernel_rfl) (fun _ _ _ h => h) (Or.inl ⟨by kernel_rfl, ?_⟩) (by assumption) ?_
  rotate_left 1
  focus (intro wq hSw; (try dsimp only at hSw); obtain ⟨s0, s1, s2, s3, s4, s5, s6, s7, s8, s9, s10, s11, s12, s13, s14, s15, s16⟩ := hSw; go_simp; (try with_reducible rfl); done)
  try simp only [List.getElem_toArray, List.getElem_cons_zero, List.getElem_cons_succ, Act.put, List.setIfInBounds_toArray, List.set_cons_zero, List.set_cons_succ]
  refine wpAnyH_ready (rs := [35]) (by kernel_rfl) (by simp) ?_
  refine AllReadyH.cons (o := _) rfl (fun K hK => ?_) AllReadyH.nil
  rw [if_pos (by kernel_rfl)]
  go_simp
  (go_at_call 18; (with_reducible refine (HS2.out _ hHeld.2.2.2.2.2.2.2.2.2.2.2.2.2.2.2.2.out.x.at_ hHeld.2.2.2.2.2.2.2.2.2.2.2.2.2.2.2.2.out.h.at_).mono ?_); rintro e z10 ⟨rfl, q⟩; clear HS2)
  first | refine hK.out _ _ ?_ (fun hHeld => ?_) | (go_wp2_with fail; refine hK.out _ _ ?_ (fun hHeld => ?_))
  · exact HS.out _ (hHeld.2.2.2.2.2.2.2.2.2.2.2.2.2.2.2.2.out.keep q)
  clear hK K
  try simp only [List.getElem_toArray, List.getElem_cons_zero, List.getElem_cons_succ, Act.put, List.setIfInBounds_toArray, List.set_cons_zero, List.set_cons_succ]
  refine wpAnyH_take (i := 36) (oi := _) (v := ?_) rfl (by kernel_rfl) (by kernel_rfl) (by kernel_rfl) (fun _ _ _ h => h) (Or.inl ⟨by kernel_rfl, ?_⟩) (by assumption) ?_
  rotate_left 1
  focus (intro wq hSw; (try dsimp only at hSw); obtain ⟨s0, s1, s2, s3, s4, s5, s6, s7, s8, s9, s10, s11, s12, s13, s14, s15, s16⟩ := hSw; go_simp; (try with_reducible rfl); done)
  try simp only [List.getElem_toArray, List.getElem_cons_zero, List.getElem_cons_succ, Act.put, List.setIfInBounds_toArray, List.set_cons_zero, List.set_cons_succ]
  refine wpAnyH_take (i := 37) (oi := _) (v := ?_) rfl (by kernel_rfl) (by kernel_rfl) (by kernel_rfl) (fun _ _ _ h => h) (Or.inl ⟨by kernel_rfl, ?_⟩) (by assumption) ?_
  rotate_left 1
  focus (intro wq hSw; (try dsimp only at hSw); obtain ⟨s0, s1, s2, s3, s4, s5, s6, s7, s8, s9, s10, s11, s12, s13, s14, s15, s16⟩ := hSw; go_simp; (try with_reducible rfl); done)
  try simp only [List.getElem_toArray, List.getElem_cons_zero, List.getElem_cons_succ, Act.put, List.setIfInBounds_toArray, List.set_cons_zero, List.set_cons_succ]
  refine wpAnyH_take (i := 38) (oi := _) (v := ?_) rfl (by kernel_rfl) (by kernel_rfl) (by kernel_rfl) (fun _ _ _ h => h) (Or.inl ⟨by kernel_rfl, ?_⟩) (by assumption) ?_
  rotate_left 1
  focus (intro wq hSw; (try dsimp only at hSw); obtain ⟨s0, s1, s2, s3, s4, s5, s6, s7, s8, s9, s10, s11, s12, s13, s14, s15, s16⟩ := hSw; go_simp; (try with_reducible rfl); done)
  try simp only [List.getElem_toArray, List.getElem_cons_zero, List.getElem_cons_succ, Act.put, List.setIfInBounds_toArray, List.set_cons_zero, List.set_cons_succ]
  refine wpAnyH_done (by kernel_rfl) ?_ _
  go_wp2
  go_returns
  exact ⟨rfl, hHeld.2.2.2.2.2.2.2.2.2.2.2.2.2.2.2.2.out.a.bw⟩
end Go.Proofs.Ytkhnoikdfelheaa
