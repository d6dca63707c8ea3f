/- Contracts: moved, of canon. -/
import Derived.Test.YtkhnoikdfelheaaG2
namespace Go.Proofs.Ytkhnoikdfelheaa
set_option linter.unusedVariables false
set_option linter.unusedSimpArgs false
open Go.ChangeShapes Go.WideShapes Go.ChangeAt Go.RowKit
def movedW (l : List Sp) (d : Int) : List Sp := l.map fun s => (wrap64 (s.1 + d), wrap64 (s.2 + d))
theorem wrap_far {x u d : Int} (hx : -1099511627776 ≤ x ∧ x ≤ 1099511627776) (hu : -1099511627776 ≤ u ∧ u ≤ 1099511627776) (hd : -9223372036854775808 ≤ d ∧ d ≤ 9223372036854775807) : wrap64 (x + d) = u ↔ x + d = u := by
  unfold wrap64; omega
theorem movedW_good : ∀ {a b : List Sp} {lo lo' : Int} {d : Int}, Rt lo a → Rt lo' b → -1099511627776 ≤ lo → -1099511627776 ≤ lo' → (-9223372036854775808 ≤ d ∧ d ≤ 9223372036854775807) → (movedW a d = b ↔ moved a d = b) := by
  intro a b lo lo' d ha hb h1 h2 hd
  have key : ∀ (i : Nat) (hi : i < a.length) (hj : i < b.length), ((wrap64 (a[i].1 + d), wrap64 (a[i].2 + d)) : Sp) = b[i] ↔ ((a[i].1 + d, a[i].2 + d) : Sp) = b[i] := by
    intro i hi hj
    have g1 := good_at ha i hi
    have g2 := good_at hb i hj
    rw [Prod.ext_iff, Prod.ext_iff]
    simp only
    rw [wrap_far (by omega) (by omega) hd, wrap_far (by omega) (by omega) hd]
  constructor
  · intro e
    have hl : a.length = b.length := by rw [← e]; simp [movedW]
    refine List.ext_getElem (by rw [moved_length]; exact hl) (fun i h3 h4 => ?_)
    rw [moved_length] at h3
    have := (key i h3 h4).1 (by
      have e2 : (movedW a d)[i]? = b[i]? := by rw [e]
      rw [List.getElem?_eq_getElem h4] at e2
      unfold movedW at e2
      rw [List.getElem?_map, List.getElem?_eq_getElem h3] at e2
      simpa using e2)
    rw [← this]; simp [moved]
  · intro e
    have hl : a.length = b.length := by rw [← e]; simp [moved]
    refine List.ext_getElem (by unfold movedW; rw [List.length_map]; exact hl) (fun i h3 h4 => ?_)
    have h3 : i < a.length := by unfold movedW at h3; rwa [List.length_map] at h3
    have := (key i h3 h4).2 (by
      have e2 : (moved a d)[i]? = b[i]? := by rw [e]
      rw [List.getElem?_eq_getElem h4] at e2
      unfold moved at e2
      rw [List.getElem?_map, List.getElem?_eq_getElem h3] at e2
      simpa using e2)
    rw [← this]; simp [movedW]
set_option maxHeartbeats 1000000 in
theorem movedC_any (x y u v d : Int) (b : Nat) (w : World) (hb : w.cell? ⟨b, 0, none⟩ = some (.int .i64 d)) (r : Bool) (hr : r = true ↔ wrap64 (x + d) = u ∧ wrap64 (y + d) = v) :
    Calls Try.prog 69 #[.agg #[.int .i64 x, .int .i64 y], .agg #[.int .i64 u, .int .i64 v], .pointer (some ⟨b, 0, none⟩)] w fun e w' => e = .returned (.bool r) ∧ Below w.heap.size w w' := by
  have K1 := (Below.refl _ w).alloc (Nat.le_refl _) (.cells #[.int .i64 x, .int .i64 y] 46)
  have K2 := (Below.refl _ (w.alloc (.cells #[.int .i64 x, .int .i64 y] 46))).alloc (Nat.le_refl _) (.cells #[.int .i64 u, .int .i64 v] 46)
  have a1 := cell_keep (box_cells w (.int .i64 x) (.int .i64 y) 46).1 K2
  have a2 := cell_keep (box_cells w (.int .i64 x) (.int .i64 y) 46).2 K2
  have b1 := (box_cells (w.alloc (.cells #[.int .i64 x, .int .i64 y] 46)) (.int .i64 u) (.int .i64 v) 46).1
  have b2 := (box_cells (w.alloc (.cells #[.int .i64 x, .int .i64 y] 46)) (.int .i64 u) (.int .i64 v) 46).2
  have HB : Hid (Below w.heap.size w ((w.alloc (.cells #[.int .i64 x, .int .i64 y] 46)).alloc (.cells #[.int .i64 u, .int .i64 v] 46))) := Lib.hid (K1.trans (K2.mono K1.size))
  have c1 := cell_keep hb (K1.trans (K2.mono K1.size))
  clear hb K1 K2
  obtain ⟨p, hp⟩ : ∃ p, wrap64 (x + d) = p := ⟨_, rfl⟩
  obtain ⟨q, hq⟩ : ∃ q, wrap64 (y + d) = q := ⟨_, rfl⟩
  rw [hp, hq] at hr
  obtain ⟨bx, hbx⟩ : ∃ b, w.heap.size = b := ⟨_, rfl⟩
  obtain ⟨bu, hbu⟩ : ∃ b, (w.alloc (.cells #[.int .i64 x, .int .i64 y] 46)).heap.size = b := ⟨_, rfl⟩
  rw [hbx] at a1 a2
  rw [hbu] at b1 b2
  have hbu2 : bx + 1 = bu := by rw [← hbu, ← hbx]; simp
  clear hbu
  obtain ⟨wb, hwb⟩ : ∃ wb, (w.alloc (.cells #[.int .i64 x, .int .i64 y] 46)).alloc (.cells #[.int .i64 u, .int .i64 v] 46) = wb := ⟨_, rfl⟩
  rw [hwb] at a1 a2 b1 b2 c1 HB
  have HR := Lib.hid hr
  clear hr
  go_enter Try.func69, Try.ntmps69
  go_upto_region 1 with fail
  clear hwb hbx hbu2
  by_cases h1 : p = u
  · have t1 : (p == u) = true := by simp; exact h1
    by_cases h2 : q = v
    · have t2 : (q == v) = true := by simp; exact h2
      have HE : Hid (true = r) := Lib.hid (HR.out.2 ⟨h1, h2⟩).symm
      clear h1 h2
      go_wp2
      go_returns
      exact ⟨ret_bool HE.out, HB.out⟩
    · have t2 : (q == v) = false := by simp; exact h2
      have HE : Hid (false = r) := Lib.hid (by cases r; rfl; exact absurd (HR.out.1 rfl).2 h2)
      clear h1 h2
      go_wp2
      go_returns
      exact ⟨ret_bool HE.out, HB.out⟩
  · have t1 : (p == u) = false := by simp; exact h1
    have HE : Hid (false = r) := Lib.hid (by cases r; rfl; exact absurd (HR.out.1 rfl).1 h1)
    clear h1
    go_wp2
    go_returns
    exact ⟨ret_bool HE.out, HB.out⟩
theorem take_map {a b : List Sp} {d : Int} (h : a.length = b.length) {k : Nat} (hk : k < a.length) (e : (movedW a d).take k = b.take k) : (movedW a d).take (k + 1) = b.take (k + 1) ↔ ((wrap64 (a[k].1 + d), wrap64 (a[k].2 + d)) : Sp) = b[k]'(by omega) := by
  have hl : (movedW a d).length = a.length := by simp [movedW]
  have hk' : k < b.length := by omega
  have hk2 : k < (movedW a d).length := by omega
  have e2 : (movedW a d)[k] = (wrap64 (a[k].1 + d), wrap64 (a[k].2 + d)) := by simp [movedW]
  rw [List.take_succ_eq_append_getElem hk2, List.take_succ_eq_append_getElem hk', e, e2]
  exact ⟨fun h => List.singleton_inj.1 (List.append_cancel_left h), fun h => by rw [h]⟩
set_option maxHeartbeats 4000000 in
theorem equalMoved_any (ao bo : Option Addr) (n c m k : Nat) (a b : List Sp) (d : Int) (g : Nat) (w : World) (ha : SpAt w ao n c a) (hb : SpAt w bo m k b) (hg : w.cell? ⟨g, 0, none⟩ = some (.int .i64 d)) (r : Bool) (hr : r = true ↔ movedW a d = b) :
    Calls Try.prog 68 #[.slice ao n c, .slice bo m k, .func (.func 69) #[] #[.pointer (some ⟨g, 0, none⟩)]] w fun e w' => e = .returned (.bool r) ∧ Below w.heap.size w w' := by
  have HA := Lib.hid ha
  have HB := Lib.hid hb
  have HG := Lib.hid hg
  have HR := Lib.hid hr
  have hmx : n ≤ 9223372036854775807 := Nat.le_trans ha.le ha.top
  have LA := Lib.hid ha.len
  have LB := Lib.hid hb.len
  clear ha hb hr hg
  by_cases hnm : n = m
  · subst hnm
    have t1 : ((n : Int) != (n : Int)) = false := by simp
    go_enter Try.func68, Try.ntmps68
    go_wp2
    go_loopw [17] (fun ii wr => ∃ i : Nat, i ≤ n ∧ ii = .int .i64 i ∧ Hid ((movedW a d).take i = b.take i) ∧ Hid (Below w.heap.size w wr)) (fun ii _ => n - (intOf ii).toNat)
    case atStart => exact ⟨0, Nat.zero_le _, rfl, Lib.hid rfl, Lib.hid (Below.refl _ _)⟩
    case round =>
      obtain ⟨i, hi, rfl, HI, HW⟩ := hrel
      by_cases ilt : i < n
      · obtain ⟨x, p, rfl, hc⟩ := HA.out.here (by omega)
        obtain ⟨y, q, rfl, hd⟩ := HB.out.here (by omega)
        have hia : i < a.length := by rw [LA.out]; exact ilt
        have hib : i < b.length := by rw [LB.out]; exact ilt
        have c1 := cell_keep (hc i hia).1 HW.out
        have c2 := cell_keep (hc i hia).2 HW.out
        have d1 := cell_keep (hd i hib).1 HW.out
        have d2 := cell_keep (hd i hib).2 HW.out
        have HT := Lib.hid (take_map (d := d) (by rw [LA.out, LB.out]) hia HI.out)
        have HGG : Hid (movedW a d = b → ((wrap64 (a[i].1 + d), wrap64 (a[i].2 + d)) : Sp) = b[i]) := Lib.hid (fun z => by subst z; simp [movedW])
        have i0 : (0 : Int) ≤ (i : Int) := by omega
        have i1 : (i : Int) < (n : Int) := by omega
        clear hc hd
        obtain ⟨s, hs⟩ : ∃ z, a[i] = z := ⟨_, rfl⟩
        obtain ⟨u, hu⟩ : ∃ z, b[i] = z := ⟨_, rfl⟩
        rw [hs] at c1 c2 HT HGG
        rw [hu] at d1 d2 HT HGG
        obtain ⟨s1, s2⟩ := s
        obtain ⟨u1, u2⟩ := u
        simp only at c1 c2 d1 d2
        clear hs hu
        have HW1 := Lib.hid ((Below.refl _ wr).alloc (Nat.le_refl _) (.cells #[.int .i64 s1, .int .i64 s2] 46))
        have e1 := cell_keep d1 HW1.out
        have e2 := cell_keep d2 HW1.out
        have HW2 := Lib.hid (HW1.out.trans (((Below.refl _ (wr.alloc (.cells #[.int .i64 s1, .int .i64 s2] 46))).alloc (Nat.le_refl _) (.cells #[.int .i64 u1, .int .i64 u2] 46)).mono HW1.out.size))
        have f1 := cell_keep (box_cells wr (.int .i64 s1) (.int .i64 s2) 46).1 ((Below.refl _ (wr.alloc (.cells #[.int .i64 s1, .int .i64 s2] 46))).alloc (Nat.le_refl _) (.cells #[.int .i64 u1, .int .i64 u2] 46))
        have f2 := cell_keep (box_cells wr (.int .i64 s1) (.int .i64 s2) 46).2 ((Below.refl _ (wr.alloc (.cells #[.int .i64 s1, .int .i64 s2] 46))).alloc (Nat.le_refl _) (.cells #[.int .i64 u1, .int .i64 u2] 46))
        have g1 := (box_cells (wr.alloc (.cells #[.int .i64 s1, .int .i64 s2] 46)) (.int .i64 u1) (.int .i64 u2) 46).1
        have g2 := (box_cells (wr.alloc (.cells #[.int .i64 s1, .int .i64 s2] 46)) (.int .i64 u1) (.int .i64 u2) 46).2
        have hsz : (wr.alloc (.cells #[.int .i64 s1, .int .i64 s2] 46)).heap.size = wr.heap.size + 1 := by simp
        rw [hsz] at g1 g2
        clear hsz
        obtain ⟨r2, hr2⟩ : ∃ r : Bool, r = true ↔ wrap64 (s1 + d) = u1 ∧ wrap64 (s2 + d) = u2 := ⟨decide _, decide_eq_true_iff⟩
        have HC := Lib.hid (fun W (h : Below wr.heap.size wr W) => movedC_any s1 s2 u1 u2 d g W (cell_keep (cell_keep HG.out HW.out) h) r2 hr2)
        have HR2 := Lib.hid hr2
        clear hr2
        go_wp2_with fail
        (with_reducible refine (HC.out _ HW2.out).mono ?_)
        rintro e w3 ⟨rfl, q3⟩
        have HW3 := Lib.hid (HW.out.trans ((HW2.out.trans (q3.mono HW2.out.size)).mono HW.out.size))
        clear q3 HW1 HW2 HC c1 c2 d1 d2 e1 e2 f1 f2 g1 g2
        cases r2
        · have HF : Hid (false = r) := Lib.hid (by
            cases r
            · rfl
            · have h := HGG.out (HR.out.1 rfl)
              rw [Prod.ext_iff] at h
              have := HR2.out.2 h
              cases this)
          clear HT HGG HR2
          go_wp2
          go_returns
          exact ⟨ret_bool HF.out, HW3.out⟩
        · have HI2 : Hid ((movedW a d).take (i + 1) = b.take (i + 1)) := Lib.hid (HT.out.2 (Prod.ext_iff.2 (HR2.out.1 rfl)))
          clear HT HGG HR2 HI
          go_wp2
          go_roundw
          case rel => exact ⟨i + 1, by omega, by go_num, HI2, HW3⟩
          case measure => simp [intOf]; omega
      · obtain rfl : n = i := by omega
        have HF : Hid (true = r) := Lib.hid (by
          have h := HI.out
          rw [List.take_of_length_le (by unfold movedW; rw [List.length_map, LA.out]; omega), List.take_of_length_le (by rw [LB.out]; omega)] at h
          exact (HR.out.2 h).symm)
        go_wp2
        go_returns
        exact ⟨ret_bool HF.out, HW.out⟩
  · have t1 : ((n : Int) != (m : Int)) = true := by simp; omega
    have HF : Hid (false = r) := Lib.hid (by
      cases r
      · rfl
      · have h := HR.out.1 rfl
        have h1 := LA.out; have h2 := LB.out
        rw [← h] at h2
        unfold movedW at h2
        rw [List.length_map] at h2
        omega)
    clear hnm
    go_enter Try.func68, Try.ntmps68
    go_wp2
    go_returns
    exact ⟨ret_bool HF.out, Below.refl _ _⟩
theorem movedF_any (ao bo : Option Addr) (n c m k : Nat) (a b : List Sp) (d : Int) (w : World) (ha : SpAt w ao n c a) (hb : SpAt w bo m k b) (ga : Good a) (gb : Good b) (h1 : -9223372036854775808 ≤ d) (h2 : d ≤ 9223372036854775807) (r : Bool) (hr : r = true ↔ moved a d = b) :
    Calls Try.prog 49 #[.slice ao n c, .slice bo m k, .int .i64 d] w fun e w' => e = .returned (.bool r) ∧ Below w.heap.size w w' := by
  have KA := (Below.refl _ w).alloc (Nat.le_refl _) (.cells #[.int .i64 d] 3)
  have E := Lib.hid (equalMoved_any ao bo n c m k a b d w.heap.size (w.alloc (.cells #[.int .i64 d] 3)) (ha.keep KA) (hb.keep KA) (box_one w (.int .i64 d) 3) r (by rw [hr, movedW_good ga gb (Int.le_refl _) (Int.le_refl _) ⟨h1, h2⟩]))
  have HK := Lib.hid KA
  clear ha hb ga gb hr KA
  go_enter Try.func49, Try.ntmps49
  go_wp2_with fail
  (with_reducible refine (E.out).mono ?_)
  rintro e w1 ⟨rfl, b1⟩
  have HB := Lib.hid (HK.out.trans (b1.mono HK.out.size))
  clear b1 HK
  go_wp2
  go_returns
  exact ⟨rfl, HB.out⟩
end Go.Proofs.Ytkhnoikdfelheaa
