/- Contracts: Make, made. -/
import Derived.Test.YthjpnnggghfepaaU5
import Derived.Test.YthjpnnggghfepaaM1
import Derived.Test.YthjpnnggghfepaaU2
import Derived.Laws.OwnMore
import Derived.Deep.MidRow
import Derived.BigRegion
namespace Go.Proofs.Ythjpnnggghfepaa
set_option linter.unusedVariables false
set_option linter.unusedSimpArgs false
open Go.ChangeShapes Go.WideShapes Go.ChangeAt Go.RowKit
theorem own_lower {w : World} {B B' e s n : Nat} {v : Value} {xs : List Value} (h : w.ownsRow B e s v n xs) (hb : B' ≤ B) : w.ownsRow B' e s v n xs := by
  obtain ⟨h1, h2⟩ := h
  refine ⟨h1, ?_⟩
  rcases h2 with h2 | ⟨g, cap, cur, e1, e2, e3, e4⟩
  · exact .inl h2
  · exact .inr ⟨g, cap, cur, e1, Nat.le_trans hb e2, e3, e4⟩
theorem sort_own (B n c : Nat) (ao : Option Addr) (l : List Sp) (hl : l.length = n) (hn : n ≤ 1000000) (w : World) (hq : w.ownsRow B 35 2 (.slice ao n c) n (spCells l))
    (hnone : ∀ w', Calls Try.prog 38 #[.slice none 0 0, .func (.func 39) #[] #[]] w' fun e w'' => e = .returned (.tuple #[]) ∧ w'' = w') :
    Calls Try.prog 38 #[.slice ao n c, .func (.func 39) #[] #[]] w fun e w' => e = .returned (.tuple #[]) ∧ ∃ l', l'.Perm l ∧ Begun l' ∧ SpAt w' ao n c l' ∧ Below B w w' := by
  rcases hq.2 with ⟨e1, e2⟩ | ⟨g, cap, cur, e1, _⟩
  · cases e1
    obtain rfl : l = [] := List.eq_nil_of_length_eq_zero hl
    exact (hnone w).mono fun e w' ⟨h1, h2⟩ => ⟨h1, [], List.Perm.refl _, (fun i j hi => absurd hi (Nat.not_lt_zero _)), by subst h2; exact SpAt.nil _, by subst h2; exact Below.refl _ _⟩
  · cases e1
    exact (sort_any B g n c l hl hn w hq).mono fun e w' ⟨h1, l', h2, h3, h4, h5⟩ => by
      obtain ⟨ao', c', e5, hs⟩ := own_sp (h2.length_eq.trans hl) h4
      cases e5
      exact ⟨h1, l', h2, h3, hs, h5⟩
/-- What Make tells. -/
def Made (B : Nat) (w' : World) (l : List Sp) (v : Value) (k : Int) : Prop :=
  ((∃ s ∈ l, s.2 < s.1) ∧ k = 2 ∧ v = .slice none 0 0) ∨ ((∀ s ∈ l, s.1 ≤ s.2) ∧ (∃ s ∈ l, ¬ TkSp s) ∧ k = 20 ∧ v = .slice none 0 0) ∨
  ((∀ s ∈ l, s.1 ≤ s.2) ∧ (∀ s ∈ l, TkSp s) ∧ k = 0 ∧ ∃ r, Good r ∧ (∀ t, mem r t ↔ mem l t) ∧ r.length ≤ l.length ∧ w'.ownsRow B 35 2 v r.length (spCells r))
theorem tk_iff (x y : Int) : TkSp (x, y) ↔ tickB x = true ∧ tickB y = true := by rw [tickB_iff, tickB_iff]; rfl
set_option maxHeartbeats 4000000 in
theorem make_any (hnone : ∀ w', Calls Try.prog 38 #[.slice none 0 0, .func (.func 39) #[] #[]] w' fun e w'' => e = .returned (.tuple #[]) ∧ w'' = w')
    (ao : Option Addr) (n c : Nat) (l : List Sp) (hn : n ≤ 1000000) (w : World) (hl : SpAt w ao n c l) :
    Calls Try.prog 11 #[.slice ao n c] w fun e w' => ∃ (v : Value) (k : Int), e = .returned (.tuple #[v, .int .i64 k]) ∧ Below w.heap.size w w' ∧ Made w.heap.size w' l v k := by
  have HNO := Lib.hid hnone
  obtain ⟨i0, hi, hz0, hz1, hz2⟩ := info_parts info35
  have HL := Lib.hid hl
  have LN := Lib.hid hl.len
  have HII := Lib.hid hi
  have HZ0 := Lib.hid hz0
  have HZ1 := Lib.hid hz1
  have HZ2 := Lib.hid hz2
  clear hl hnone hi hz0 hz1 hz2
  go_enter Try.func11, Try.ntmps11
  go_wp2
  go_loopw [15] (fun ii wr => ∃ i : Nat, i ≤ n ∧ ii = .int .i64 i ∧ Hid (∀ s ∈ l.take i, s.1 ≤ s.2) ∧ Hid (Below w.heap.size w wr)) (fun ii _ => n - (intOf ii).toNat)
  case atStart => exact ⟨0, Nat.zero_le _, rfl, Lib.hid (fun s h => by cases h), Lib.hid (Below.refl _ _)⟩
  case round =>
    obtain ⟨i, hi, rfl, HI, HW⟩ := hrel
    by_cases ilt : i < n
    · obtain ⟨b, p, rfl, hc⟩ := HL.out.here (by omega)
      have hil : i < l.length := by rw [LN.out]; exact ilt
      have c1 := cell_keep (hc i hil).1 HW.out
      have c2 := cell_keep (hc i hil).2 HW.out
      have HT := Lib.hid (fun s => mem_take_succ (s := s) hil)
      have HM := Lib.hid (List.getElem_mem hil)
      have i0' : (0 : Int) ≤ (i : Int) := by omega
      have i1' : (i : Int) < (n : Int) := by omega
      clear hc
      obtain ⟨s, hs⟩ : ∃ z, l[i] = z := ⟨_, rfl⟩
      rw [hs] at c1 c2 HT HM
      clear hs hil
      obtain ⟨x, y⟩ := s
      simp only at c1 c2
      have b1 := (box_cells wr (.int .i64 x) (.int .i64 y) 35).1
      have b2 := (box_cells wr (.int .i64 x) (.int .i64 y) 35).2
      have HW2 := Lib.hid (HW.out.alloc HW.out.size (.cells #[.int .i64 x, .int .i64 y] 35))
      by_cases h : y < x
      · go_wp2
        go_returns
        exact ⟨_, _, rfl, HW2.out, .inl ⟨⟨_, HM.out, h⟩, rfl, rfl⟩⟩
      · have HI2 : Hid (∀ s ∈ l.take (i + 1), s.1 ≤ s.2) := Lib.hid (fun s hs => by
          rcases (HT.out s).1 hs with g | rfl
          · exact HI.out s g
          · show x ≤ y; omega)
        go_wp2
        go_roundw
        case rel => exact ⟨i + 1, by omega, by go_num, HI2, HW2⟩
        case measure => simp [intOf]; omega
    · obtain rfl : i = n := by omega
      have HLE : Hid (∀ s ∈ l, s.1 ≤ s.2) := Lib.hid (fun s hs => HI.out s (by rw [List.take_of_length_le (by rw [LN.out]; exact Nat.le_refl _)]; exact hs))
      clear HI
      go_wp2
      go_loopw [27] (fun ii wi => ∃ j : Nat, j ≤ i ∧ ii = .int .i64 j ∧ Hid (∀ s ∈ l.take j, TkSp s) ∧ Hid (Below w.heap.size w wi)) (fun ii _ => i - (intOf ii).toNat)
      case atStart => exact ⟨0, Nat.zero_le _, rfl, Lib.hid (fun s h => by cases h), HW⟩
      case round =>
        obtain ⟨j, hj, rfl, HJ, HWi⟩ := hrel
        by_cases jlt : j < i
        · obtain ⟨b, p, rfl, hc⟩ := HL.out.here (by omega)
          have hil : j < l.length := by rw [LN.out]; exact jlt
          have c1 := cell_keep (hc j hil).1 HWi.out
          have c2 := cell_keep (hc j hil).2 HWi.out
          have HT := Lib.hid (fun s => mem_take_succ (s := s) hil)
          have HM := Lib.hid (List.getElem_mem hil)
          have i0' : (0 : Int) ≤ (j : Int) := by omega
          have i1' : (j : Int) < (i : Int) := by omega
          clear hc
          obtain ⟨s, hs⟩ : ∃ z, l[j] = z := ⟨_, rfl⟩
          rw [hs] at c1 c2 HT HM
          clear hs hil
          obtain ⟨x, y⟩ := s
          simp only at c1 c2
          have b1 := (box_cells wr (.int .i64 x) (.int .i64 y) 35).1
          have b2 := (box_cells wr (.int .i64 x) (.int .i64 y) 35).2
          have HW2 := Lib.hid (HWi.out.alloc HWi.out.size (.cells #[.int .i64 x, .int .i64 y] 35))
          have T1 := Lib.hid (fun (w : World) => tick_any x w)
          have T2 := Lib.hid (fun (w : World) => tick_any y w)
          have TI := Lib.hid (tk_iff x y)
          cases h1 : tickB x
          · have HNT : Hid (¬ TkSp (x, y)) := Lib.hid (fun q => by have := (TI.out.1 q).1; rw [h1] at this; cases this)
            rw [h1] at T1
            clear h1
            go_wp2_with (go_at_call 36; with_reducible refine (T1.out _).mono ?_; rintro e w3 ⟨rfl, rfl⟩)
            go_returns
            exact ⟨_, _, rfl, HW2.out, .inr (.inl ⟨HLE.out, ⟨_, HM.out, HNT.out⟩, rfl, rfl⟩)⟩
          · cases h2 : tickB y
            · have HNT : Hid (¬ TkSp (x, y)) := Lib.hid (fun q => by have := (TI.out.1 q).2; rw [h2] at this; cases this)
              rw [h1] at T1
              rw [h2] at T2
              clear h1 h2
              go_wp2_with (first | (go_at_call 36; with_reducible refine (T1.out _).mono ?_; rintro e w3 ⟨rfl, rfl⟩) | (go_at_call 36; with_reducible refine (T2.out _).mono ?_; rintro e w4 ⟨rfl, rfl⟩))
              go_returns
              exact ⟨_, _, rfl, HW2.out, .inr (.inl ⟨HLE.out, ⟨_, HM.out, HNT.out⟩, rfl, rfl⟩)⟩
            · have HJ2 : Hid (∀ s ∈ l.take (j + 1), TkSp s) := Lib.hid (fun s hs => by
                rcases (HT.out s).1 hs with g | rfl
                · exact HJ.out s g
                · exact TI.out.2 ⟨h1, h2⟩)
              rw [h1] at T1
              rw [h2] at T2
              clear h1 h2
              go_wp2_with (first | (go_at_call 36; with_reducible refine (T1.out _).mono ?_; rintro e w3 ⟨rfl, rfl⟩) | (go_at_call 36; with_reducible refine (T2.out _).mono ?_; rintro e w4 ⟨rfl, rfl⟩))
              go_roundw
              case rel => exact ⟨j + 1, by omega, by go_num, HJ2, HW2⟩
              case measure => simp [intOf]; omega
        · obtain rfl : j = i := by omega
          have HTK : Hid (∀ s ∈ l, TkSp s) := Lib.hid (fun s hs => HJ.out s (by rw [List.take_of_length_le (by rw [LN.out]; exact Nat.le_refl _)]; exact hs))
          clear HJ
          have CL := Lib.hid (clone_any ao j c l hn wr (HL.out.keep HWi.out))
          go_upto_region 14 with (go_at_call 37; with_reducible refine CL.out.mono ?_; rintro e w1 ⟨v, rfl, hq1, hb1⟩)
          obtain ⟨ao1, cc1, rfl, _⟩ := own_sp LN.out hq1
          have SO := Lib.hid (sort_own wr.heap.size j cc1 ao1 l LN.out hn w1 hq1 HNO.out)
          have HW1 := Lib.hid (HWi.out.trans (hb1.mono HWi.out.size))
          have HSZ := Lib.hid hb1.size
          clear hq1 hb1 CL
          go_upto_region 15 with (go_at_call 38; with_reducible refine SO.out.mono ?_; rintro e w2 ⟨rfl, l', hp, hb, hs, hb2⟩)
          have HWW := Lib.hid (HW1.out.trans ((Below.mono hb2 HWi.out.size).mono (Nat.le_refl _)))
          have LP : Hid (l'.length = j) := Lib.hid (hp.length_eq.trans LN.out)
          have HP := Lib.hid hp
          have HBG := Lib.hid hb
          have HL2 := Lib.hid hs
          clear hp hb hs hb2 SO
          go_wp2
          go_loopw [9, 48] (fun rv ii wx => ∃ i : Nat, i ≤ j ∧ ii = .int .i64 i ∧ ∃ r, Hid (Joined (l'.take i) r) ∧ Hid (wx.ownsRow w2.heap.size 35 2 rv r.length (spCells r)) ∧ Hid (Below w2.heap.size w2 wx)) (fun _ ii _ => j - (intOf ii).toNat)
          case atStart => exact ⟨0, Nat.zero_le _, rfl, [], Lib.hid joined_nil, Lib.hid (World.ownsRow_nil _ _ _ _), Lib.hid (Below.refl _ _)⟩
          case round =>
            obtain ⟨i, hi, rfl, r, HJ, HO, HX⟩ := hrel
            by_cases ilt : i < j
            · have hil : i < l'.length := by rw [LP.out]; exact ilt
              obtain ⟨b', p', rfl, hc⟩ := HL2.out.here (by omega)
              have c1 := cell_keep (hc i hil).1 HX.out
              have c2 := cell_keep (hc i hil).2 HX.out
              have HTT := Lib.hid (List.take_succ_eq_append_getElem hil)
              have HM := Lib.hid (List.getElem_mem hil)
              have HBB : Hid (∀ q ∈ l'.take i, q.1 ≤ l'[i].1) := Lib.hid (fun q hq => by
                obtain ⟨t, ht, rfl⟩ := List.getElem_of_mem hq
                rw [List.length_take] at ht
                rw [List.getElem_take]
                exact HBG.out t i (by omega) hil (by omega))
              have i0' : (0 : Int) ≤ (i : Int) := by omega
              have i1' : (i : Int) < (j : Int) := by omega
              clear hc
              obtain ⟨s, hs⟩ : ∃ z, l'[i] = z := ⟨_, rfl⟩
              rw [hs] at c1 c2 HTT HM HBB
              clear hs hil
              obtain ⟨x, y⟩ := s
              simp only at c1 c2 HBB
              have HXY : Hid (x ≤ y) := Lib.hid (HLE.out (x, y) (HP.out.mem_iff.1 HM.out))
              have HXT : Hid (TkSp (x, y)) := Lib.hid (HTK.out (x, y) (HP.out.mem_iff.1 HM.out))
              have b1 := (box_cells wr (.int .i64 x) (.int .i64 y) 35).1
              have b2 := (box_cells wr (.int .i64 x) (.int .i64 y) 35).2
              have KA := Lib.hid ((Below.refl _ wr).alloc (Nat.le_refl _) (.cells #[.int .i64 x, .int .i64 y] 35))
              have HX2 := Lib.hid (HX.out.alloc HX.out.size (.cells #[.int .i64 x, .int .i64 y] 35))
              have HO2 := Lib.hid (keepB HO.out KA.out)
              have hml := HJ.out.len
              rw [List.length_take] at hml
              obtain ⟨m, hm⟩ : ∃ m, r.length = m := ⟨_, rfl⟩
              have HOm := HO2.out
              rw [hm] at HOm hml
              obtain ⟨rao, rc, rfl, hrs⟩ := own_sp hm HOm
              have HON := Lib.hid HOm
              have HRS := Lib.hid hrs
              clear HOm hrs HO HO2
              have hmx : m ≤ 1000000 := by omega
              by_cases h0 : r = []
              · have hm0 : m = 0 := by rw [← hm, h0]; rfl
                subst hm0
                have HJ2 : Hid (Joined (l'.take (i + 1)) (r ++ [(x, y)])) := Lib.hid (by rw [HTT.out]; exact joined_push HJ.out (x, y) HXY.out HXT.out (fun e => absurd h0 e))
                go_wp2
                go_quiet (fail)
                go_upto_region 22 with fail
                obtain ⟨W, hW⟩ : ∃ W, (wr.alloc (.cells #[.int .i64 x, .int .i64 y] 35)).drewN nq = W := ⟨_, rfl⟩
                have v1 : W.cell? ⟨wr.heap.size, 0, none⟩ = some (.int .i64 x) := by rw [← hW]; exact b1
                have v2 : W.cell? ⟨wr.heap.size, 1, none⟩ = some (.int .i64 y) := by rw [← hW]; exact b2
                have HXW := Lib.hid (below_drewN HX2.out nq)
                have HOW := Lib.hid (keepB HON.out (below_drewN (Below.refl _ (wr.alloc (.cells #[.int .i64 x, .int .i64 y] 35))) nq))
                rw [hW] at HXW HOW
                rw [hW]
                clear hW
                have HCC : Hid (spCells r ++ [.int .i64 x, .int .i64 y] = spCells (r ++ [(x, y)])) := Lib.hid (by rw [spCells_snoc])
                have HLL : Hid (r.length + 1 = (r ++ [(x, y)]).length) := Lib.hid (by simp)
                go_wp2_with (at_builtin; refine wpList_append_own _ rfl _ _ 22 rfl w2.heap.size 35 i0 (.agg #[.int .i64 0, .int .i64 0]) 2 16 Try.underlying22 HII.out HZ0.out HZ1.out HZ2.out rfl (by decide) _ _ (spCells r) rfl (keepB HOW.out ((Below.refl _ W).alloc (Nat.le_refl _) _)) ⟨W.heap.size, 0, none⟩ 1 1 [.int .i64 x, .int .i64 y] rfl rfl (cells_new2 W _ _ _) (by intro z hz; simp at hz; rcases hz with rfl | rfl <;> rfl) (by unfold maxLen; omega) (by omega) (by have := HXW.out.size; simp; omega) ?_; intro v' w3 hown hgrow _; rw [HCC.out] at hown; have HO3 := Lib.hid hown; have HB3 := Lib.hid ((HXW.out.alloc HXW.out.size (.cells #[.int .i64 x, .int .i64 y] 35)).grown hgrow (Nat.le_trans HXW.out.size (by simp)) (fun q hq => (HOW.out.lt q hq).1)); clear hown hgrow)
                go_roundw
                case rel => exact ⟨i + 1, by omega, by go_num, _, HJ2, Lib.hid (by have q := HO3.out; have q2 := HLL.out; rw [hm] at q2; rw [← q2]; exact q), HB3⟩
                case measure => simp [intOf]; omega
              · obtain ⟨z, r0, hr⟩ : ∃ z r0, r = r0 ++ [z] := ⟨r.getLast h0, r.dropLast, (List.dropLast_concat_getLast h0).symm⟩
                obtain ⟨k, hk⟩ : ∃ k, r0.length = k := ⟨_, rfl⟩
                have hmk : m = k + 1 := by rw [← hm, hr]; simp [hk]
                subst hmk
                obtain ⟨g, rfl⟩ : ∃ g, rao = some ⟨g, 0, none⟩ := by
                  rcases HON.out.2 with ⟨e, _⟩ | ⟨g, cap, cur, e, _⟩
                  · cases e
                  · cases e; exact ⟨g, rfl⟩
                have hkr : k < r.length := by omega
                have q0 := spCells_at r k hkr
                have e0 : r[k] = z := by subst hr; subst hk; simp
                rw [e0] at q0
                obtain ⟨zx, zy⟩ := z
                simp only at q0
                have d2 := HON.out.cellAt (k * 2 + 1) (by omega)
                rw [q0.2] at d2
                have d3 := HON.out.frozenAt (k * 2 + 1)
                have hzz := (rt_snoc r0 _ (zx, zy)).1 (by rw [← hr]; exact HJ.out.good)
                have hz0 := nxt_le hzz.1
                have hz1 : -1099511627776 ≤ zy := by have := hzz.2.1; have := hzz.2.2.1; simp only at *; omega
                have hz2 : zy ≤ 1099511627776 := hzz.2.2.2
                have HZX : Hid (zx ≤ x) := Lib.hid (by
                  obtain ⟨q, hq, e⟩ := HJ.out.starts (zx, zy) (by rw [hr]; simp)
                  have := HBB.out q hq
                  simp only at e; omega)
                clear hzz hz0
                have e1 : IntKind.i64.wrap (((k + 1 : Nat) : Int) - 1) = (k : Int) := by rw [IntWalk.i64_in _ (by omega)]; omega
                have k0 : (0 : Int) ≤ (k : Int) := by omega
                have k1 : (k : Int) < ((k + 1 : Nat) : Int) := by omega
                have k2 : k < k + 1 := by omega
                have k3 : (0 : Int) < ((k + 1 : Nat) : Int) := by omega
                clear q0 e0
                by_cases hcmp : x ≤ zy + 1
                · go_wp2
                  go_quiet (fail)
                  go_upto_region 21 with fail
                  obtain ⟨W, hW⟩ : ∃ W, (wr.alloc (.cells #[.int .i64 x, .int .i64 y] 35)).drewN nq = W := ⟨_, rfl⟩
                  have v1 : W.cell? ⟨wr.heap.size, 0, none⟩ = some (.int .i64 x) := by rw [← hW]; exact b1
                  have v2 : W.cell? ⟨wr.heap.size, 1, none⟩ = some (.int .i64 y) := by rw [← hW]; exact b2
                  have v3 : W.cell? ⟨g, k * 2 + 1, none⟩ = some (.int .i64 zy) := by rw [← hW]; exact d2
                  have v4 : W.frozen? ⟨g, k * 2 + 1, none⟩ = false := by rw [← hW]; exact d3
                  have HXW := Lib.hid (below_drewN HX2.out nq)
                  have HOW := Lib.hid (keepB HON.out (below_drewN (Below.refl _ (wr.alloc (.cells #[.int .i64 x, .int .i64 y] 35))) nq))
                  rw [hW] at HXW HOW
                  rw [hW]
                  clear hW d2 d3
                  have HJ2 : Hid (Joined (l'.take (i + 1)) (r0 ++ [(zx, max zy y)])) := Lib.hid (by rw [HTT.out]; exact joined_grow (by rw [← hr]; exact HJ.out) (x, y) HXY.out HXT.out HZX.out hcmp _ rfl)
                  have HSET : Hid ((spCells r).set (k * 2 + 1) (.int .i64 (max zy y)) = spCells (r0 ++ [(zx, max zy y)])) := Lib.hid (by
                    have hlen : (spCells r0).length = k * 2 := by rw [spCells_length, hk]
                    rw [hr, spCells_snoc, spCells_snoc, List.set_append_right _ _ (by omega), hlen, show k * 2 + 1 - k * 2 = 1 by omega]; rfl)
                  have HLL : Hid (k + 1 = (r0 ++ [(zx, max zy y)]).length) := Lib.hid (by simp [hk])
                  have hst := (HOW.out.stored (k * 2 + 1) (.int .i64 (max zy y))).1
                  rw [HSET.out] at hst
                  have HO3 := Lib.hid hst
                  have HB3 := Lib.hid (HXW.out.setCell (p := ⟨g, k * 2 + 1, none⟩) (HOW.out.lt g rfl).1 (.int .i64 (max zy y)))
                  clear hst
                  go_region
                  go_wp2
                  go_roundw
                  case rel => exact ⟨i + 1, by omega, by go_num, _, HJ2, Lib.hid (by rw [← HLL.out]; exact HO3.out.drew), Lib.hid (HB3.out.drew)⟩
                  case measure => simp [intOf]; omega
                · have HJ2 : Hid (Joined (l'.take (i + 1)) (r ++ [(x, y)])) := Lib.hid (by
                    rw [HTT.out]
                    refine joined_push HJ.out (x, y) HXY.out HXT.out (fun _ r1 z1 e => ?_)
                    rw [hr] at e
                    have := (List.append_inj_right' e rfl)
                    cases this
                    show zy + 1 < x; omega)
                  go_wp2
                  go_quiet (fail)
                  go_upto_region 22 with fail
                  obtain ⟨W, hW⟩ : ∃ W, (wr.alloc (.cells #[.int .i64 x, .int .i64 y] 35)).drewN nq = W := ⟨_, rfl⟩
                  have v1 : W.cell? ⟨wr.heap.size, 0, none⟩ = some (.int .i64 x) := by rw [← hW]; exact b1
                  have v2 : W.cell? ⟨wr.heap.size, 1, none⟩ = some (.int .i64 y) := by rw [← hW]; exact b2
                  have HXW := Lib.hid (below_drewN HX2.out nq)
                  have HOW := Lib.hid (keepB HON.out (below_drewN (Below.refl _ (wr.alloc (.cells #[.int .i64 x, .int .i64 y] 35))) nq))
                  rw [hW] at HXW HOW
                  rw [hW]
                  clear hW
                  have HCC : Hid (spCells r ++ [.int .i64 x, .int .i64 y] = spCells (r ++ [(x, y)])) := Lib.hid (by rw [spCells_snoc])
                  have HLL : Hid (r.length + 1 = (r ++ [(x, y)]).length) := Lib.hid (by simp)
                  go_wp2_with (at_builtin; refine wpList_append_own _ rfl _ _ 22 rfl w2.heap.size 35 i0 (.agg #[.int .i64 0, .int .i64 0]) 2 16 Try.underlying22 HII.out HZ0.out HZ1.out HZ2.out rfl (by decide) _ _ (spCells r) rfl (keepB HOW.out ((Below.refl _ W).alloc (Nat.le_refl _) _)) ⟨W.heap.size, 0, none⟩ 1 1 [.int .i64 x, .int .i64 y] rfl rfl (cells_new2 W _ _ _) (by intro z hz; simp at hz; rcases hz with rfl | rfl <;> rfl) (by unfold maxLen; omega) (by omega) (by have := HXW.out.size; simp; omega) ?_; intro v' w3 hown hgrow _; rw [HCC.out] at hown; have HO3 := Lib.hid hown; have HB3 := Lib.hid ((HXW.out.alloc HXW.out.size (.cells #[.int .i64 x, .int .i64 y] 35)).grown hgrow (Nat.le_trans HXW.out.size (by simp)) (fun q hq => (HOW.out.lt q hq).1)); clear hown hgrow)
                  go_roundw
                  case rel => exact ⟨i + 1, by omega, by go_num, _, HJ2, Lib.hid (by have q := HO3.out; have q2 := HLL.out; rw [hm] at q2; rw [← q2]; exact q), HB3⟩
                  case measure => simp [intOf]; omega
            · obtain rfl : i = j := by omega
              have HJ2 : Hid (Joined l' r) := Lib.hid (by have q := HJ.out; rwa [List.take_of_length_le (by rw [LP.out]; exact Nat.le_refl _)] at q)
              go_wp2
              go_returns
              refine ⟨_, _, rfl, HWW.out.trans (HX.out.mono HWW.out.size), .inr (.inr ⟨HLE.out, HTK.out, rfl, r, HJ2.out.good, fun t => (HJ2.out.same t).trans ?_, ?_, own_lower HO.out HWW.out.size⟩)⟩
              · unfold mem; exact ⟨fun ⟨s, a, b⟩ => ⟨s, HP.out.mem_iff.1 a, b⟩, fun ⟨s, a, b⟩ => ⟨s, HP.out.mem_iff.2 a, b⟩⟩
              · have := HJ2.out.len; have := LP.out; rw [LN.out]; omega
end Go.Proofs.Ythjpnnggghfepaa
