/- SpansTicks: the walk. -/
import Derived.Test.YthjpnnggghfepaaA3
namespace Go.Proofs.Ythjpnnggghfepaa
set_option linter.unusedVariables false
set_option linter.unusedSimpArgs false
open Go.ChangeShapes Go.WideShapes Go.ChangeAt Go.RowKit
theorem own_block {w w' : World} {B e s n : Nat} {g c m : Nat} {xs : List Value} (h : w.ownsRow B e s (.slice (some ⟨g, 0, none⟩) m c) n xs) (hb : w'.heap[g]? = w.heap[g]?) : w'.ownsRow B e s (.slice (some ⟨g, 0, none⟩) m c) n xs := by
  obtain ⟨h1, h2⟩ := h
  refine ⟨h1, ?_⟩
  rcases h2 with ⟨e1, _⟩ | ⟨g', cap, cur, e1, e2, e3, e4⟩
  · cases e1
  · cases e1
    exact .inr ⟨g, _, cur, rfl, e2, hb.trans e3, e4⟩
theorem both_ok {a b : List Sp} (ga : Good a) (gb : Good b) : (∀ s ∈ a ++ b, s.1 ≤ s.2) ∧ ∀ s ∈ a ++ b, TkSp s := by
  have one : ∀ {l : List Sp}, Good l → ∀ s ∈ l, s.1 ≤ s.2 ∧ TkSp s := fun g s hs => by
    obtain ⟨i, hi, rfl⟩ := List.getElem_of_mem hs
    have := good_at g i hi
    exact ⟨this.2.1, ⟨by omega, by omega⟩, by omega, by omega⟩
  exact ⟨fun s hs => (List.mem_append.1 hs).elim (fun h => (one ga s h).1) (fun h => (one gb s h).1), fun s hs => (List.mem_append.1 hs).elim (fun h => (one ga s h).2) (fun h => (one gb s h).2)⟩
theorem alloc_cell (w : World) (cells : Array Value) (t : TypeId) (i : Nat) (hi : i < cells.size) : (w.alloc (.cells cells t)).cell? ⟨w.heap.size, i, none⟩ = some cells[i] := by
  have hh : (w.alloc (.cells cells t)).heap[w.heap.size]? = some (.cells cells t) := by
    show (w.heap.push _)[w.heap.size]? = _
    simp
  unfold World.cell?
  rw [hh]
  simp [hi]
set_option maxHeartbeats 4000000 in
set_option maxRecDepth 100000 in
theorem ticks_law (A0 B0 : Option Addr) (m1 m2 d1 d2 : Nat) (l1 l2 : List Sp) (t0 : Int) (w : World) (h1 : SpAt w A0 m1 d1 l1) (h2 : SpAt w B0 m2 d2 l2) :
    Calls Try.prog 5 #[.slice A0 m1 d1, .slice B0 m2 d2, .int .i64 t0] w fun e w' => e = .returned (.bool true) ∧ Below w.heap.size w w' := by
  go_enter Try.func5, Try.ntmps5
  go_wp2_with fail
  (with_reducible refine (made_any A0 m1 d1 l1 w h1).mono ?_); rintro e w1 ⟨ao, n1, c1, a, rfl, ga, e1, s1, q1⟩
  go_wp2_with fail
  (with_reducible refine (made_any B0 m2 d2 l2 w1 (h2.keep q1)).mono ?_); rintro e w2 ⟨bo, n2, c2, b, rfl, gb, e2, s2, q2⟩
  have HT : Hid (Ws w w2 [(bo, n2, c2, b), (ao, n1, c1, a)]) := Lib.hid (Ws.add (Ws.add ⟨Below.refl _ _, fun x hx => by cases hx⟩ q1 s1) q2 s2)
  have Ga := Lib.hid ga
  have Gb := Lib.hid gb
  have LA := Lib.hid s1.len
  have LB := Lib.hid s2.len
  have Na := Lib.hid e1
  have Nb := Lib.hid e2
  clear s1 s2 q1 q2 h1 h2 ga gb e1 e2
  go_wp2_with fail
  (with_reducible refine (union_sp ao bo n1 c1 n2 c2 a b Ga.out Gb.out (by have := Na.out; omega) (by have := Nb.out; omega) _ (HT.out.at ao n1 c1 a (List.Mem.tail _ (List.Mem.head _))) (HT.out.at bo n2 c2 b (List.Mem.head _))).mono ?_)
  rintro e z ⟨oun, nun, cun, un, rfl, Hun, q⟩
  have HT := Lib.hid (HT.out.add q Hun.out.2.2.2)
  have Gun := Lib.hid Hun.out.1
  have Mun := Lib.hid Hun.out.2.1
  have Nun : Hid (nun ≤ 160) := Lib.hid (by have := Hun.out.2.2.1; have := Na.out; have := Nb.out; omega)
  clear q Hun
  go_wp2_with fail
  (with_reducible refine (cut_sp ao bo n1 c1 n2 c2 a b Ga.out Gb.out (by have := Na.out; omega) (by have := Nb.out; omega) _ (HT.out.at ao n1 c1 a (List.Mem.tail _ (List.Mem.tail _ (List.Mem.head _)))) (HT.out.at bo n2 c2 b (List.Mem.tail _ (List.Mem.head _)))).mono ?_)
  rintro e z ⟨ocu, ncu, ccu, cu, rfl, Hcu, q⟩
  have HT := Lib.hid (HT.out.add q Hcu.out.2.2.2)
  have Gcu := Lib.hid Hcu.out.1
  have Mcu := Lib.hid Hcu.out.2.1
  have Ncu : Hid (ncu ≤ 160) := Lib.hid (by have := Hcu.out.2.2.1; have := Na.out; have := Nb.out; omega)
  clear q Hcu
  go_wp2_with fail
  (with_reducible refine (less_sp ao bo n1 c1 n2 c2 a b Ga.out Gb.out (by have := Na.out; omega) (by have := Nb.out; omega) _ (HT.out.at ao n1 c1 a (List.Mem.tail _ (List.Mem.tail _ (List.Mem.tail _ (List.Mem.head _))))) (HT.out.at bo n2 c2 b (List.Mem.tail _ (List.Mem.tail _ (List.Mem.head _))))).mono ?_)
  rintro e z ⟨ole, nle, cle, le, rfl, Hle, q⟩
  have HT := Lib.hid (HT.out.add q Hle.out.2.2.2)
  have Gle := Lib.hid Hle.out.1
  have Mle := Lib.hid Hle.out.2.1
  have Nle : Hid (nle ≤ 160) := Lib.hid (by have := Hle.out.2.2.1; have := Na.out; have := Nb.out; omega)
  clear q Hle
  go_upto_region 4 with fail
  have hbx := (Below.refl _ z).alloc (Nat.le_refl _) (.cells #[.slice ao n1 c1, .slice bo n2 c2, .slice oun nun cun, .slice ocu ncu ccu, .slice ole nle cle] 22)
  have HT := Lib.hid (HT.out.keep hbx)
  have HBZ := Lib.hid hbx.size
  obtain ⟨wb, hwb⟩ : ∃ wb, z.alloc (.cells #[.slice ao n1 c1, .slice bo n2 c2, .slice oun nun cun, .slice ocu ncu ccu, .slice ole nle cle] 22) = wb := ⟨_, rfl⟩
  clear hbx
  go_loopw [43] (fun ii wr => ∃ i : Nat, i ≤ 5 ∧ ii = .int .i64 i ∧ Hid (Ws w wr [(ole, nle, cle, le), (ocu, ncu, ccu, cu), (oun, nun, cun, un), (bo, n2, c2, b), (ao, n1, c1, a)]) ∧ Hid (Below (z.alloc (.cells #[.slice ao n1 c1, .slice bo n2 c2, .slice oun nun cun, .slice ocu ncu ccu, .slice ole nle cle] 22)).heap.size (z.alloc (.cells #[.slice ao n1 c1, .slice bo n2 c2, .slice oun nun cun, .slice ocu ncu ccu, .slice ole nle cle] 22)) wr)) (fun ii _ => 5 - (intOf ii).toNat)
  case atStart => exact ⟨0, by omega, rfl, HT, Lib.hid (Below.refl _ _)⟩
  case round =>
    obtain ⟨i, hi, rfl, HT, HBX⟩ := hrel
    by_cases ilt : i < 5
    · have hcase : i = 0 ∨ i = 1 ∨ i = 2 ∨ i = 3 ∨ i = 4 := by omega
      clear hwb
      rcases hcase with rfl | rfl | rfl | rfl | rfl
      · have kc := cell_keep (alloc_cell z #[.slice ao n1 c1, .slice bo n2 c2, .slice oun nun cun, .slice ocu ncu ccu, .slice ole nle cle] 22 0 (by simp)) HBX.out
        go_wp2_with fail
        (with_reducible refine (right_any ao n1 c1 a _ (HT.out.at ao n1 c1 a (List.Mem.tail _ (List.Mem.tail _ (List.Mem.tail _ (List.Mem.tail _ (List.Mem.head _)))))) true (by simp only [true_iff]; exact Ga.out)).mono ?_)
        rintro e y ⟨rfl, q⟩
        have HT := Lib.hid (HT.out.keep q)
        have HBX := Lib.hid (HBX.out.trans (q.mono HBX.out.size))
        clear q kc
        go_wp2
        go_roundw
        case rel => exact ⟨0 + 1, by omega, by go_num, HT, HBX⟩
        case measure => simp [intOf]
      · have kc := cell_keep (alloc_cell z #[.slice ao n1 c1, .slice bo n2 c2, .slice oun nun cun, .slice ocu ncu ccu, .slice ole nle cle] 22 1 (by simp)) HBX.out
        go_wp2_with fail
        (with_reducible refine (right_any bo n2 c2 b _ (HT.out.at bo n2 c2 b (List.Mem.tail _ (List.Mem.tail _ (List.Mem.tail _ (List.Mem.head _))))) true (by simp only [true_iff]; exact Gb.out)).mono ?_)
        rintro e y ⟨rfl, q⟩
        have HT := Lib.hid (HT.out.keep q)
        have HBX := Lib.hid (HBX.out.trans (q.mono HBX.out.size))
        clear q kc
        go_wp2
        go_roundw
        case rel => exact ⟨1 + 1, by omega, by go_num, HT, HBX⟩
        case measure => simp [intOf]
      · have kc := cell_keep (alloc_cell z #[.slice ao n1 c1, .slice bo n2 c2, .slice oun nun cun, .slice ocu ncu ccu, .slice ole nle cle] 22 2 (by simp)) HBX.out
        go_wp2_with fail
        (with_reducible refine (right_any oun nun cun un _ (HT.out.at oun nun cun un (List.Mem.tail _ (List.Mem.tail _ (List.Mem.head _)))) true (by simp only [true_iff]; exact Gun.out)).mono ?_)
        rintro e y ⟨rfl, q⟩
        have HT := Lib.hid (HT.out.keep q)
        have HBX := Lib.hid (HBX.out.trans (q.mono HBX.out.size))
        clear q kc
        go_wp2
        go_roundw
        case rel => exact ⟨2 + 1, by omega, by go_num, HT, HBX⟩
        case measure => simp [intOf]
      · have kc := cell_keep (alloc_cell z #[.slice ao n1 c1, .slice bo n2 c2, .slice oun nun cun, .slice ocu ncu ccu, .slice ole nle cle] 22 3 (by simp)) HBX.out
        go_wp2_with fail
        (with_reducible refine (right_any ocu ncu ccu cu _ (HT.out.at ocu ncu ccu cu (List.Mem.tail _ (List.Mem.head _))) true (by simp only [true_iff]; exact Gcu.out)).mono ?_)
        rintro e y ⟨rfl, q⟩
        have HT := Lib.hid (HT.out.keep q)
        have HBX := Lib.hid (HBX.out.trans (q.mono HBX.out.size))
        clear q kc
        go_wp2
        go_roundw
        case rel => exact ⟨3 + 1, by omega, by go_num, HT, HBX⟩
        case measure => simp [intOf]
      · have kc := cell_keep (alloc_cell z #[.slice ao n1 c1, .slice bo n2 c2, .slice oun nun cun, .slice ocu ncu ccu, .slice ole nle cle] 22 4 (by simp)) HBX.out
        go_wp2_with fail
        (with_reducible refine (right_any ole nle cle le _ (HT.out.at ole nle cle le (List.Mem.head _)) true (by simp only [true_iff]; exact Gle.out)).mono ?_)
        rintro e y ⟨rfl, q⟩
        have HT := Lib.hid (HT.out.keep q)
        have HBX := Lib.hid (HBX.out.trans (q.mono HBX.out.size))
        clear q kc
        go_wp2
        go_roundw
        case rel => exact ⟨4 + 1, by omega, by go_num, HT, HBX⟩
        case measure => simp [intOf]
    · obtain rfl : i = 5 := by omega
      clear HBX HBZ hwb
      have HZ := HT
      have HB9 := Lib.hid ((Below.refl _ wr).alloc (Nat.le_refl _) (.cells #[.int .i64 t0] 3))
      have HO := Lib.hid (World.ownsRow_lit (base := wr.heap.size) (e := 3) (size := 1) wr #[.int .i64 t0] 1 (Nat.le_refl _) (by unfold maxLen; omega) rfl)
      have HT := Lib.hid (HT.out.keep HB9.out)
      go_wp2_with fail
      (with_reducible refine (anew_any ao n1 c1 a (by have := Na.out; omega) _ (HT.out.at ao n1 c1 a (List.Mem.tail _ (List.Mem.tail _ (List.Mem.tail _ (List.Mem.tail _ (List.Mem.head _))))))).mono ?_)
      rintro e z2 ⟨v2, rfl, ho2, q⟩
      have HA2 := Lib.hid ho2
      have HT := Lib.hid (HT.out.keep q)
      have HO := Lib.hid (keepB HO.out q)
      have HB9 := Lib.hid (HB9.out.trans (q.mono HB9.out.size))
      have HS2 := Lib.hid q.size
      obtain ⟨B2, hB2⟩ : ∃ B2, (wr.alloc (.cells #[.int .i64 t0] 3)).heap.size = B2 := ⟨_, rfl⟩
      rw [hB2] at HA2 HS2
      have HB2 : Hid (wr.heap.size + 1 = B2) := Lib.hid (by rw [← hB2]; simp)
      clear q ho2 hB2
      obtain ⟨nE, hnE⟩ : ∃ k, n1 + n2 = k := ⟨_, rfl⟩
      have HNE := Lib.hid hnE
      have hn80 : nE ≤ 80 := by have := Na.out; have := Nb.out; omega
      clear hnE
      go_upto_region 11 with (at_builtin; refine appSp (w0 := z2) rfl _ _ rfl B2 v2 n1 a (by rfl) HA2.out bo n2 c2 b (by rfl) (HT.out.at bo n2 c2 b (List.Mem.tail _ (List.Mem.tail _ (List.Mem.tail _ (List.Mem.head _))))) (by have := Na.out; omega) (by have := Nb.out; omega) (Below.refl _ z2) HS2.out ?_; intro v3 z3 ho3 hb3; rw [HNE.out] at ho3; obtain ⟨eo, ec, rfl, hes⟩ := own_sp (by rw [List.length_append, LA.out, LB.out]; exact HNE.out) ho3; have HE := Lib.hid hes; have HG3 := Lib.hid (fun g p (e : eo = some ⟨g, p, none⟩) => (ho3.lt g (by rw [e]; rfl)).1); have HB3 := Lib.hid hb3; clear ho3 hb3 hes)
      obtain ⟨E, hE⟩ : ∃ E, a ++ b = E := ⟨_, rfl⟩
      have HTK : Hid (∀ s ∈ E, -1099511627776 ≤ s.1 ∧ s.1 ≤ s.2 ∧ s.2 ≤ 1099511627776) := Lib.hid (fun s hs => by
        rw [← hE] at hs
        rcases List.mem_append.1 hs with h | h
        · obtain ⟨i, hi, rfl⟩ := List.getElem_of_mem h; exact good_at Ga.out i hi
        · obtain ⟨i, hi, rfl⟩ := List.getElem_of_mem h; exact good_at Gb.out i hi)
      rw [hE] at HE
      have HBZ := Lib.hid (HB9.out.trans (HB3.out.mono (by have := HB2.out; omega)))
      have HO3 := Lib.hid (own_block HO.out (HB3.out.block wr.heap.size (by have := HB2.out; omega)))
      have HGE : Hid (∀ g p, eo = some ⟨g, p, none⟩ → (Value.slice (some ⟨wr.heap.size, 0, none⟩) 1 1).ownBlock ≠ some g ∧ z3.heap[g]? = z3.heap[g]?) := Lib.hid (fun g p e => ⟨fun h => by
        have h1 := HG3.out g p e
        have h2 := HB2.out
        simp [Value.ownBlock] at h
        omega, rfl⟩)
      clear hE HT HO HB9 HB3 HG3 HB2 HA2 HS2
      obtain ⟨wo, rfl⟩ : ∃ wo : World, wo = wr := ⟨_, rfl⟩
      go_loopw [14, 58] (fun v ii W => ∃ (i : Nat) (L : List Int), i ≤ nE ∧ ii = .int .i64 i ∧ Hid (L.length = 1 + 4 * i) ∧ Hid (W.ownsRow wo.heap.size 3 1 v L.length (inC L)) ∧ Hid (Below wo.heap.size wo W) ∧ Hid (∀ g p, eo = some ⟨g, p, none⟩ → v.ownBlock ≠ some g ∧ W.heap[g]? = z3.heap[g]?)) (fun _ ii _ => nE - (intOf ii).toNat)
      case atStart => exact ⟨0, [t0], Nat.zero_le _, rfl, Lib.hid rfl, HO3, HBZ, HGE⟩
      case round =>
        obtain ⟨i, L, hi2, rfl, HL, HO, HBW, HGW⟩ := hrel
        by_cases jlt : i < nE
        · obtain ⟨g, p, rfl, hc⟩ := HE.out.here (by omega)
          have hil : i < E.length := by rw [HE.out.len]; exact jlt
          have hgb := HGW.out g p rfl
          have d1 := (World.cell?_of_block (a := ⟨g, p + i * 2, none⟩) hgb.2).trans (hc i hil).1
          have d2 := (World.cell?_of_block (a := ⟨g, p + i * 2 + 1, none⟩) hgb.2).trans (hc i hil).2
          obtain ⟨b1, b2, b3⟩ := HTK.out _ (List.getElem_mem hil)
          obtain ⟨sE, hs⟩ : ∃ q, E[i] = q := ⟨_, rfl⟩
          rw [hs] at d1 d2 b1 b2 b3
          obtain ⟨x, y⟩ := sE
          simp only at d1 d2 b1 b2 b3
          have i0 : (0 : Int) ≤ (i : Int) := by omega
          have i1 : (i : Int) < (nE : Int) := by omega
          have HLL := HL.out
          have hL1 : L.length ≤ 1000 := by omega
          have KA := (Below.refl _ wr).alloc (Nat.le_refl _) (.cells #[.int .i64 x, .int .i64 y] 35)
          have HO1 := Lib.hid (keepB HO.out KA)
          have HB1 := Lib.hid (HBW.out.alloc HBW.out.size (.cells #[.int .i64 x, .int .i64 y] 35))
          have f1 := (box_cells wr (.int .i64 x) (.int .i64 y) 35).1
          have f2 := (box_cells wr (.int .i64 x) (.int .i64 y) 35).2
          have HGL := Lib.hid (cell_here d1)
          have HKA := Lib.hid KA
          have HGB := Lib.hid hgb
          clear hc hs hil HLL hgb KA
          go_wp2_with (at_builtin; refine appN (w0 := wo) rfl _ _ rfl wo.heap.size u14 L.length L (by rfl) HO1.out [x - 1, x, y, y + 1] _ 4 4 (wr.heap.size + 1) (by simp) (by rfl) _ rfl rfl (by omega) (by omega) HB1.out (Nat.le_refl _) ?_; intro v5 w5 ho5 hb5 hx5; have HO5 := Lib.hid ho5; have HB5 := Lib.hid hb5; have HX5 := Lib.hid hx5; clear ho5 hb5 hx5)
          go_roundw
          case rel => exact ⟨i + 1, L ++ [x - 1, x, y, y + 1], by omega, by go_num, Lib.hid (by rw [List.length_append, HL.out]; simp; omega), Lib.hid (by rw [List.length_append]; exact HO5.out), HB5, Lib.hid (fun g' p' e => by
            cases e
            have q := HX5.out g (by have := HGL.out; simp at this ⊢; omega) HGB.out.1
            exact ⟨q.1, q.2.trans ((HKA.out.block g HGL.out).trans HGB.out.2)⟩)⟩
          case measure => simp [intOf]; omega
        · obtain rfl : i = nE := by omega
          obtain ⟨qo, qc, rfl, hqi⟩ := own_int rfl HO.out
          have HIA := Lib.hid hqi
          have HT := Lib.hid (HZ.out.keep HBW.out)
          have HQL : Hid (L.length ≤ 1000) := Lib.hid (by have := HL.out; omega)
          obtain ⟨nL, hnL⟩ : ∃ k, L.length = k := ⟨_, rfl⟩
          rw [hnL] at HIA HQL
          rw [hnL]
          have hnl1 := HQL.out
          clear hqi HO HBW HGW HL hnL HE HTK HGE HO3 HBZ HZ
          go_upto_region 16 with fail
          go_loopw [78] (fun ii W3 => ∃ j : Nat, j ≤ nL ∧ ii = .int .i64 j ∧ Hid (Ws w W3 [(ole, nle, cle, le), (ocu, ncu, ccu, cu), (oun, nun, cun, un), (bo, n2, c2, b), (ao, n1, c1, a)]) ∧ Hid (IntAt W3 qo nL qc L)) (fun ii _ => nL - (intOf ii).toNat)
          case atStart => exact ⟨0, Nat.zero_le _, rfl, HT, HIA⟩
          case round =>
            obtain ⟨j, hj, rfl, HT, HIA⟩ := hrel
            by_cases klt : j < nL
            · obtain ⟨g5, p5, rfl, hc⟩ := HIA.out.here (by omega)
              have hjl : j < L.length := by rw [HIA.out.len]; exact klt
              have d1 := hc j hjl
              obtain ⟨x, hx⟩ : ∃ q, L[j] = q := ⟨_, rfl⟩
              rw [hx] at d1
              have j0 : (0 : Int) ≤ (j : Int) := by omega
              have j1 : (j : Int) < (nL : Int) := by omega
              obtain ⟨p, hp⟩ : ∃ r : Bool, Hid (r = true ↔ mem a x) := by classical exact ⟨decide _, Lib.hid decide_eq_true_iff⟩
              obtain ⟨q, hq⟩ : ∃ r : Bool, Hid (r = true ↔ mem b x) := by classical exact ⟨decide _, Lib.hid decide_eq_true_iff⟩
              clear hc hx hjl
              go_wp2_with fail
              (with_reducible refine (has_any ao n1 c1 a x _ (HT.out.at ao n1 c1 a (List.Mem.tail _ (List.Mem.tail _ (List.Mem.tail _ (List.Mem.tail _ (List.Mem.head _)))))) Ga.out (by have := Na.out; omega) p hp.out).mono ?_)
              rintro e y ⟨rfl, qq⟩
              have HT := Lib.hid (HT.out.keep qq)
              have HIA := Lib.hid (HIA.out.keep qq)
              clear qq
              go_wp2_with fail
              (with_reducible refine (has_any bo n2 c2 b x _ (HT.out.at bo n2 c2 b (List.Mem.tail _ (List.Mem.tail _ (List.Mem.tail _ (List.Mem.head _))))) Gb.out (by have := Nb.out; omega) q hq.out).mono ?_)
              rintro e y ⟨rfl, qq⟩
              have HT := Lib.hid (HT.out.keep qq)
              have HIA := Lib.hid (HIA.out.keep qq)
              clear qq
              cases p
              · cases q
                · have Ep : Hid (¬ mem a x) := Lib.hid (fun h => by have := hp.out.2 h; cases this)
                  have Eq2 : Hid (¬ mem b x) := Lib.hid (fun h => by have := hq.out.2 h; cases this)
                  clear hp hq
                  go_wp2_with fail
                  (with_reducible refine (has_any oun nun cun un x _ (HT.out.at oun nun cun un (List.Mem.tail _ (List.Mem.tail _ (List.Mem.head _)))) Gun.out (by have := Nun.out; omega) false (⟨(fun h => by cases h), fun h => absurd ((Mun.out x).1 h) (fun h => h.elim (fun z => absurd z Ep.out) (fun z => absurd z Eq2.out))⟩)).mono ?_)
                  rintro e y ⟨rfl, q⟩
                  have HT := Lib.hid (HT.out.keep q)
                  have HIA := Lib.hid (HIA.out.keep q)
                  clear q
                  go_wp2_with fail
                  (with_reducible refine (has_any ocu ncu ccu cu x _ (HT.out.at ocu ncu ccu cu (List.Mem.tail _ (List.Mem.head _))) Gcu.out (by have := Ncu.out; omega) false (⟨(fun h => by cases h), fun h => absurd ((Mcu.out x).1 h) (fun h => absurd h.1 Ep.out)⟩)).mono ?_)
                  rintro e y ⟨rfl, q⟩
                  have HT := Lib.hid (HT.out.keep q)
                  have HIA := Lib.hid (HIA.out.keep q)
                  clear q
                  go_wp2_with fail
                  (with_reducible refine (has_any ole nle cle le x _ (HT.out.at ole nle cle le (List.Mem.head _)) Gle.out (by have := Nle.out; omega) false (⟨(fun h => by cases h), fun h => absurd ((Mle.out x).1 h) (fun h => absurd h.1 Ep.out)⟩)).mono ?_)
                  rintro e y ⟨rfl, q⟩
                  have HT := Lib.hid (HT.out.keep q)
                  have HIA := Lib.hid (HIA.out.keep q)
                  clear q
                  go_wp2
                  go_roundw
                  case rel => exact ⟨j + 1, by omega, by go_num, HT, HIA⟩
                  case measure => simp [intOf]; omega
                · have Ep : Hid (¬ mem a x) := Lib.hid (fun h => by have := hp.out.2 h; cases this)
                  have Eq2 : Hid (mem b x) := Lib.hid (hq.out.1 rfl)
                  clear hp hq
                  go_wp2_with fail
                  (with_reducible refine (has_any oun nun cun un x _ (HT.out.at oun nun cun un (List.Mem.tail _ (List.Mem.tail _ (List.Mem.head _)))) Gun.out (by have := Nun.out; omega) true (by simp only [true_iff]; exact (Mun.out x).2 (.inr Eq2.out))).mono ?_)
                  rintro e y ⟨rfl, q⟩
                  have HT := Lib.hid (HT.out.keep q)
                  have HIA := Lib.hid (HIA.out.keep q)
                  clear q
                  go_wp2_with fail
                  (with_reducible refine (has_any ocu ncu ccu cu x _ (HT.out.at ocu ncu ccu cu (List.Mem.tail _ (List.Mem.head _))) Gcu.out (by have := Ncu.out; omega) false (⟨(fun h => by cases h), fun h => absurd ((Mcu.out x).1 h) (fun h => absurd h.1 Ep.out)⟩)).mono ?_)
                  rintro e y ⟨rfl, q⟩
                  have HT := Lib.hid (HT.out.keep q)
                  have HIA := Lib.hid (HIA.out.keep q)
                  clear q
                  go_wp2_with fail
                  (with_reducible refine (has_any ole nle cle le x _ (HT.out.at ole nle cle le (List.Mem.head _)) Gle.out (by have := Nle.out; omega) false (⟨(fun h => by cases h), fun h => absurd ((Mle.out x).1 h) (fun h => absurd h.1 Ep.out)⟩)).mono ?_)
                  rintro e y ⟨rfl, q⟩
                  have HT := Lib.hid (HT.out.keep q)
                  have HIA := Lib.hid (HIA.out.keep q)
                  clear q
                  go_wp2
                  go_roundw
                  case rel => exact ⟨j + 1, by omega, by go_num, HT, HIA⟩
                  case measure => simp [intOf]; omega
              · cases q
                · have Ep : Hid (mem a x) := Lib.hid (hp.out.1 rfl)
                  have Eq2 : Hid (¬ mem b x) := Lib.hid (fun h => by have := hq.out.2 h; cases this)
                  clear hp hq
                  go_wp2_with fail
                  (with_reducible refine (has_any oun nun cun un x _ (HT.out.at oun nun cun un (List.Mem.tail _ (List.Mem.tail _ (List.Mem.head _)))) Gun.out (by have := Nun.out; omega) true (by simp only [true_iff]; exact (Mun.out x).2 (.inl Ep.out))).mono ?_)
                  rintro e y ⟨rfl, q⟩
                  have HT := Lib.hid (HT.out.keep q)
                  have HIA := Lib.hid (HIA.out.keep q)
                  clear q
                  go_wp2_with fail
                  (with_reducible refine (has_any ocu ncu ccu cu x _ (HT.out.at ocu ncu ccu cu (List.Mem.tail _ (List.Mem.head _))) Gcu.out (by have := Ncu.out; omega) false (⟨(fun h => by cases h), fun h => absurd ((Mcu.out x).1 h) (fun h => absurd h.2 Eq2.out)⟩)).mono ?_)
                  rintro e y ⟨rfl, q⟩
                  have HT := Lib.hid (HT.out.keep q)
                  have HIA := Lib.hid (HIA.out.keep q)
                  clear q
                  go_wp2_with fail
                  (with_reducible refine (has_any ole nle cle le x _ (HT.out.at ole nle cle le (List.Mem.head _)) Gle.out (by have := Nle.out; omega) true (by simp only [true_iff]; exact (Mle.out x).2 ⟨Ep.out, Eq2.out⟩)).mono ?_)
                  rintro e y ⟨rfl, q⟩
                  have HT := Lib.hid (HT.out.keep q)
                  have HIA := Lib.hid (HIA.out.keep q)
                  clear q
                  go_wp2
                  go_roundw
                  case rel => exact ⟨j + 1, by omega, by go_num, HT, HIA⟩
                  case measure => simp [intOf]; omega
                · have Ep : Hid (mem a x) := Lib.hid (hp.out.1 rfl)
                  have Eq2 : Hid (mem b x) := Lib.hid (hq.out.1 rfl)
                  clear hp hq
                  go_wp2_with fail
                  (with_reducible refine (has_any oun nun cun un x _ (HT.out.at oun nun cun un (List.Mem.tail _ (List.Mem.tail _ (List.Mem.head _)))) Gun.out (by have := Nun.out; omega) true (by simp only [true_iff]; exact (Mun.out x).2 (.inl Ep.out))).mono ?_)
                  rintro e y ⟨rfl, q⟩
                  have HT := Lib.hid (HT.out.keep q)
                  have HIA := Lib.hid (HIA.out.keep q)
                  clear q
                  go_wp2_with fail
                  (with_reducible refine (has_any ocu ncu ccu cu x _ (HT.out.at ocu ncu ccu cu (List.Mem.tail _ (List.Mem.head _))) Gcu.out (by have := Ncu.out; omega) true (by simp only [true_iff]; exact (Mcu.out x).2 ⟨Ep.out, Eq2.out⟩)).mono ?_)
                  rintro e y ⟨rfl, q⟩
                  have HT := Lib.hid (HT.out.keep q)
                  have HIA := Lib.hid (HIA.out.keep q)
                  clear q
                  go_wp2_with fail
                  (with_reducible refine (has_any ole nle cle le x _ (HT.out.at ole nle cle le (List.Mem.head _)) Gle.out (by have := Nle.out; omega) false (⟨(fun h => by cases h), fun h => absurd ((Mle.out x).1 h) (fun h => absurd Eq2.out h.2)⟩)).mono ?_)
                  rintro e y ⟨rfl, q⟩
                  have HT := Lib.hid (HT.out.keep q)
                  have HIA := Lib.hid (HIA.out.keep q)
                  clear q
                  go_wp2
                  go_roundw
                  case rel => exact ⟨j + 1, by omega, by go_num, HT, HIA⟩
                  case measure => simp [intOf]; omega
            · obtain rfl : j = nL := by omega
              clear HIA
              go_wp2_with fail
              (with_reducible refine (anew_any ole nle cle le (by have := Nle.out; omega) _ (HT.out.at ole nle cle le (List.Mem.head _))).mono ?_)
              rintro e z6 ⟨v6, rfl, ho6, q⟩
              have HA6 := Lib.hid ho6
              have HS6 := Lib.hid q.size
              have HQ6 := Lib.hid q
              have L6 := Lib.hid (HT.out.at ole nle cle le (List.Mem.head _)).len
              have L7 := Lib.hid (HT.out.at ocu ncu ccu cu (List.Mem.tail _ (List.Mem.head _))).len
              have HC6 := Lib.hid ((HT.out.at ocu ncu ccu cu (List.Mem.tail _ (List.Mem.head _))).keep q)
              clear ho6 q
              go_wp2_with (at_builtin; refine appSp (w0 := z6) rfl _ _ rfl wr.heap.size v6 nle le (by rfl) HA6.out ocu ncu ccu cu (by rfl) HC6.out (by have := Nle.out; omega) (by have := Ncu.out; omega) (Below.refl _ z6) HS6.out ?_; intro v7 z7 ho7 hb7; obtain ⟨eo7, ec7, rfl, hes7⟩ := own_sp (by rw [List.length_append, L6.out, L7.out]) ho7; have HE7 := Lib.hid hes7; have HT := Lib.hid (HT.out.keep (HQ6.out.trans hb7)); clear ho7 hb7 hes7)
              (with_reducible refine (make_right (le ++ cu) a Ga.out (fun t => by rw [mem_append, Mle.out t, Mcu.out t]; by_cases p : mem a t <;> by_cases q : mem b t <;> simp [p, q]) (both_ok Gle.out Gcu.out).1 (both_ok Gle.out Gcu.out).2 eo7 (nle + ncu) ec7 (by have := Nle.out; have := Ncu.out; omega) _ HE7.out).mono ?_)
              rintro e y ⟨ao8, c8, rfl, q, s8⟩
              have HT := Lib.hid (HT.out.add q s8)
              clear q s8 HE7
              go_wp2_with fail
              (with_reducible refine (same_any ao8 ao a.length c8 n1 c1 a a _ (HT.out.at ao8 a.length c8 a (List.Mem.head _)) (HT.out.at ao n1 c1 a (List.Mem.tail _ (List.Mem.tail _ (List.Mem.tail _ (List.Mem.tail _ (List.Mem.tail _ (List.Mem.head _))))))) true (by simp)).mono ?_)
              rintro e y ⟨rfl, q⟩
              have HT := Lib.hid (HT.out.keep q)
              clear q
              go_wp2_with fail
              (with_reducible refine (awake_any _).mono ?_)
              rintro e y ⟨rfl, q⟩
              have HT := Lib.hid (HT.out.keep q)
              clear q
              go_wp2
              go_returns
              exact ⟨rfl, HT.out.bw⟩
end Go.Proofs.Ythjpnnggghfepaa
