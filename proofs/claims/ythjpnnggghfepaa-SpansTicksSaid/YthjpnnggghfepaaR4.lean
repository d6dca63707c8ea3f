/- Slices of numbers; the contract of the document's insert. -/
import Derived.Test.YthjpnnggghfepaaR3
namespace Go.Proofs.Ythjpnnggghfepaa
set_option linter.unusedVariables false
set_option linter.unusedSimpArgs false
open Go.ChangeShapes Go.WideShapes Go.ChangeAt Go.RowKit
/-- A slice that reads as numbers. -/
structure IntAt (w : World) (ao : Option Addr) (n c : Nat) (l : List Int) : Prop where
  len : l.length = n
  le : n ≤ c
  top : c ≤ 9223372036854775807
  bare : ao = none → n = 0 ∧ c = 0
  here : 0 < n → ∃ b p, ao = some ⟨b, p, none⟩ ∧ ∀ i (h : i < l.length), w.cell? ⟨b, p + i, none⟩ = some (.int .i64 l[i])
theorem IntAt.keep {w w' : World} {ao : Option Addr} {n c : Nat} {l : List Int} (h : IntAt w ao n c l) (k : Below w.heap.size w w') : IntAt w' ao n c l :=
  ⟨h.len, h.le, h.top, h.bare, fun h0 => by
    obtain ⟨b, p, e, hc⟩ := h.here h0
    exact ⟨b, p, e, fun i hi => cell_keep (hc i hi) k⟩⟩
theorem IntAt.nil (w : World) : IntAt w none 0 0 [] := ⟨rfl, Nat.le_refl _, by omega, fun _ => ⟨rfl, rfl⟩, fun h => absurd h (Nat.lt_irrefl _)⟩
theorem inC_len (l : List Int) : (inC l).length = l.length := by simp [inC]
theorem inC_snoc (l : List Int) (y : Int) : inC (l ++ [y]) = inC l ++ [.int .i64 y] := by simp [inC]
/-- A slice of the call's own that reads as numbers. -/
theorem own_int {w : World} {B n : Nat} {v : Value} {l : List Int} (hl : l.length = n) (h : w.ownsRow B 3 1 v n (inC l)) : ∃ ao c, v = .slice ao n c ∧ IntAt w ao n c l := by
  have hc := h
  rcases h.2 with ⟨rfl, rfl⟩ | ⟨g, cap, cur, rfl, h2, h3, h4, h5, h6⟩
  · obtain rfl : l = [] := List.eq_nil_of_length_eq_zero hl
    exact ⟨none, 0, rfl, IntAt.nil w⟩
  · refine ⟨some ⟨g, 0, none⟩, cap, rfl, hl, h4, by unfold maxLen at h5; omega, (by intro e; cases e), fun _ => ⟨g, 0, rfl, fun i hi => ?_⟩⟩
    have z := hc.cells (g := g) rfl i (.int .i64 l[i]) (by simp [inC, hi])
    rw [add_off] at z
    exact z
theorem cells_new1 (w : World) (x : Value) (t : TypeId) : ∀ (j : Nat) (u : Value), [x][j]? = some u → (w.alloc (.cells #[x] t)).cell? ((⟨w.heap.size, 0, none⟩ : Addr).add j) = some u := by
  intro j u hu
  match j with
  | 0 => cases hu; rw [add_off]; exact box_one w x t
  | j + 1 => simp at hu
/-- A number more, behind numbers of the call's own. -/
theorem app1 {w0 wr : World} {ops : Array Oper} {rest : List Oper} {o : Oper} {a : Act} {Q : Exit → Act → World → Prop} (hgd : o.guard = none) (s x : Operand)
    (ho : o.op = .call { callee := .builtin .append, args := #[s, x], argTypes := #[41, 41] }) (B : Nat) (v : Value) (n : Nat) (l : List Int) (hs : a.eval s = v) (hown : wr.ownsRow B 3 1 v n (inC l)) (y : Int) (tt : TypeId) (c : Nat) (hx : a.eval x = .slice (some ⟨wr.heap.size, 0, none⟩) 1 c) (hn : n ≤ 1000000) (hB : Below B w0 wr) (h0 : B ≤ w0.heap.size)
    (h : ∀ v' w', w'.ownsRow B 3 1 v' (n + 1) (inC (l ++ [y])) → Below B w0 w' → wpList Try.prog ops Q rest (a.put o.dst v') w') : wpList Try.prog ops Q (o :: rest) a (wr.alloc (.cells #[.int .i64 y] tt)) := by
  obtain ⟨i0, hi, hz0, hz1, hz2⟩ := info_parts info3
  have KA := (Below.refl _ wr).alloc (Nat.le_refl _) (.cells #[.int .i64 y] tt)
  have hBs : B ≤ wr.heap.size := Nat.le_trans h0 hB.size
  refine wpList_append_own _ hgd s x 41 ho B 3 i0 (.int .i64 0) 1 8 Try.underlying41 hi hz0 hz1 hz2 rfl (by decide) v n (inC l) hs (keepB hown KA) ⟨wr.heap.size, 0, none⟩ 1 c [.int .i64 y] hx rfl (cells_new1 wr _ _) (by intro z hz; simp at hz; subst hz; rfl) (by unfold maxLen; omega) (by omega) (by simp; omega) ?_
  intro v' w' hown' hgro _
  refine h v' w' (by rw [inC_snoc]; exact hown') ?_
  refine (hB.trans (KA.mono hBs)).grown hgro (by simp; omega) (fun q hq => ?_)
  exact (hown.lt q hq).1
set_option maxHeartbeats 2000000 in
theorem insert_any (ao : Option Addr) (n c : Nat) (l : List Int) (x : Int) (hn : n ≤ 100000) (w : World) (hl : IntAt w ao n c l) :
    Calls Try.prog 53 #[.slice ao n c, .int .i64 x] w fun e w' => ∃ v, e = .returned v ∧ w'.ownsRow w.heap.size 3 1 v (ins x l).length (inC (ins x l)) ∧ Below w.heap.size w w' := by
  have HL := Lib.hid hl
  have LN := Lib.hid hl.len
  clear hl
  go_enter Try.func53, Try.ntmps53
  go_wp2
  go_loopw [5, 6, 7] (fun v pu ii wr => ∃ i : Nat, i ≤ n ∧ ii = .int .i64 i ∧ pu = .bool (insRun x (l.take i)).1 ∧ Hid (wr.ownsRow w.heap.size 3 1 v (insRun x (l.take i)).2.length (inC (insRun x (l.take i)).2)) ∧ Hid (Below w.heap.size w wr)) (fun _ _ ii _ => n - (intOf ii).toNat)
  case atStart => exact ⟨0, Nat.zero_le _, rfl, rfl, Lib.hid (World.ownsRow_nil _ _ _ _), Lib.hid (Below.refl _ _)⟩
  case round =>
    obtain ⟨i, hi, rfl, rfl, HO, HW⟩ := hrel
    have hle := insRun_len x (l.take i)
    have hlt := List.length_take_le i l
    by_cases ilt : i < n
    · obtain ⟨b, p, rfl, hc⟩ := HL.out.here (by omega)
      have hil : i < l.length := by rw [LN.out]; exact ilt
      have c1 := cell_keep (hc i hil) HW.out
      have HC0 := Lib.hid (hc i hil)
      have HST : Hid (insRun x (l.take (i + 1)) = insStep x (insRun x (l.take i)) l[i]) := Lib.hid (by rw [List.take_succ_eq_append_getElem hil, insRun_snoc])
      have i0' : (0 : Int) ≤ (i : Int) := by omega
      have i1' : (i : Int) < (n : Int) := by omega
      clear hc
      obtain ⟨y, hy⟩ : ∃ z, l[i] = z := ⟨_, rfl⟩
      rw [hy] at c1 HST HC0
      clear hy hil
      obtain ⟨st, hst⟩ : ∃ z, insRun x (l.take i) = z := ⟨_, rfl⟩
      rw [hst] at HO HST hle
      rw [hst]
      obtain ⟨pu, out⟩ := st
      simp only at HO hle
      clear hst
      have hout : out.length ≤ 200000 := by omega
      clear hle hlt
      by_cases e : y = x
      · have HE : Hid (insRun x (l.take (i + 1)) = (true, out ++ [y])) := Lib.hid (by rw [HST.out]; unfold insStep; rw [if_pos e])
        have t1 : (y == x) = true := by simp; exact e
        clear HST e
        go_wp2_with (at_builtin; refine app1 rfl _ _ rfl w.heap.size u5 out.length out (by rfl) HO.out y _ _ (by rfl) (by omega) HW.out (Nat.le_refl _) ?_; intro v' w3 hO hB'; have HO2 := Lib.hid hO; have HB2 := Lib.hid hB'; clear hO hB')
        go_roundw
        case rel => exact ⟨i + 1, by omega, by go_num, by rw [HE.out], by rw [HE.out]; exact Lib.hid (by simpa using HO2.out), HB2⟩
        case measure => simp [intOf]; omega
      · have t1 : (y == x) = false := by simp; exact e
        cases pu
        · by_cases e2 : x < y
          · have HE : Hid (insRun x (l.take (i + 1)) = (true, out ++ [x] ++ [y])) := Lib.hid (by rw [HST.out]; unfold insStep; rw [if_neg e, if_pos ⟨rfl, e2⟩])
            clear HST e
            go_upto_region 10 with (at_builtin; refine app1 rfl _ _ rfl w.heap.size u5 out.length out (by rfl) HO.out x _ _ (by rfl) (by omega) HW.out (Nat.le_refl _) ?_; intro v2 w3 hO hB'; have HO2 := Lib.hid hO; have HB2 := Lib.hid hB'; clear hO hB')
            have hO5 : (out ++ [x]).length = out.length + 1 := by simp
            have HL5 := Lib.hid hO5
            clear hO5
            have c3 := cell_keep HC0.out HB2.out
            go_wp2_with (at_builtin; refine app1 rfl _ _ rfl w.heap.size v2 (out.length + 1) (out ++ [x]) (by rfl) HO2.out y _ _ (by rfl) (by omega) HB2.out (Nat.le_refl _) ?_; intro v' w4 hO hB'; have HO3 := Lib.hid hO; have HB3 := Lib.hid hB'; clear hO hB')
            go_roundw
            case rel => exact ⟨i + 1, by omega, by go_num, by rw [HE.out], by rw [HE.out]; exact Lib.hid (by simpa using HO3.out), HB3⟩
            case measure => simp [intOf]; omega
          · have HE : Hid (insRun x (l.take (i + 1)) = (false, out ++ [y])) := Lib.hid (by rw [HST.out]; unfold insStep; rw [if_neg e, if_neg (by simp [e2])])
            clear HST e
            go_wp2_with (at_builtin; refine app1 rfl _ _ rfl w.heap.size u5 out.length out (by rfl) HO.out y _ _ (by rfl) (by omega) HW.out (Nat.le_refl _) ?_; intro v' w3 hO hB'; have HO2 := Lib.hid hO; have HB2 := Lib.hid hB'; clear hO hB')
            go_roundw
            case rel => exact ⟨i + 1, by omega, by go_num, by rw [HE.out], by rw [HE.out]; exact Lib.hid (by simpa using HO2.out), HB2⟩
            case measure => simp [intOf]; omega
        · have HE : Hid (insRun x (l.take (i + 1)) = (true, out ++ [y])) := Lib.hid (by rw [HST.out]; unfold insStep; rw [if_neg e, if_neg (by simp)])
          clear HST e
          go_wp2_with (at_builtin; refine app1 rfl _ _ rfl w.heap.size u5 out.length out (by rfl) HO.out y _ _ (by rfl) (by omega) HW.out (Nat.le_refl _) ?_; intro v' w3 hO hB'; have HO2 := Lib.hid hO; have HB2 := Lib.hid hB'; clear hO hB')
          go_roundw
          case rel => exact ⟨i + 1, by omega, by go_num, by rw [HE.out], by rw [HE.out]; exact Lib.hid (by simpa using HO2.out), HB2⟩
          case measure => simp [intOf]; omega
    · obtain rfl : i = n := by omega
      have HT : Hid (l.take i = l) := Lib.hid (List.take_of_length_le (by rw [LN.out]; exact Nat.le_refl _))
      rw [HT.out] at HO hle ⊢
      have HI : Hid (ins x l = if (insRun x l).1 then (insRun x l).2 else (insRun x l).2 ++ [x]) := Lib.hid rfl
      obtain ⟨st, hst⟩ : ∃ z, insRun x l = z := ⟨_, rfl⟩
      rw [hst] at HO HI hle
      rw [hst]
      obtain ⟨pu, out⟩ := st
      simp only at HO hle HI
      have hout : out.length ≤ 200000 := by have := LN.out; omega
      clear hst hle hlt HT
      cases pu
      · have HI2 : Hid (ins x l = out ++ [x]) := Lib.hid (by rw [HI.out]; rfl)
        clear HI
        go_wp2_with (at_builtin; refine app1 rfl _ _ rfl w.heap.size u5 out.length out (by rfl) HO.out x _ _ (by rfl) (by omega) HW.out (Nat.le_refl _) ?_; intro v' w3 hO hB'; have HO2 := Lib.hid hO; have HB2 := Lib.hid hB'; clear hO hB')
        go_returns
        exact ⟨_, rfl, by rw [HI2.out]; simpa using HO2.out, HB2.out⟩
      · have HI2 : Hid (ins x l = out) := Lib.hid (by rw [HI.out]; rfl)
        clear HI
        go_wp2
        go_returns
        exact ⟨_, rfl, by rw [HI2.out]; exact HO.out, HW.out⟩
end Go.Proofs.Ythjpnnggghfepaa
