/- Contracts: Alike, Hull, the document's Count and Ahead. -/
import Derived.Test.YthjpnnggghfepaaS6
import Derived.StillTailTactics
namespace Go.Proofs.Ythjpnnggghfepaa
set_option linter.unusedVariables false
set_option linter.unusedSimpArgs false
open Go.ChangeShapes Go.WideShapes Go.ChangeAt Go.RowKit
theorem alike_any (ao bo : Option Addr) (n c m d : Nat) (a b : List Sp) (w : World) (ha : SpAt w ao n c a) (hb : SpAt w bo m d b) (r : Bool) (hr : r = true ↔ a = b) :
    Calls Try.prog 13 #[.slice ao n c, .slice bo m d] w fun e w' => e = .returned (.bool r) ∧ Below w.heap.size w w' := by
  have HA := Lib.hid ha
  have HB := Lib.hid hb
  have HR := Lib.hid hr
  have hmx : n ≤ 9223372036854775807 := Nat.le_trans ha.le ha.top
  have LA := Lib.hid ha.len
  have LB := Lib.hid hb.len
  clear ha hb hr
  by_cases hnm : n = m
  · subst hnm
    have t1 : ((n : Int) != (n : Int)) = false := by simp
    go_enter Try.func13, Try.ntmps13
    go_wp2
    go_loopw [14] (fun ii wr => ∃ i : Nat, i ≤ n ∧ ii = .int .i64 i ∧ Hid (a.take i = b.take i) ∧ Hid (Below w.heap.size w wr)) (fun ii _ => n - (intOf ii).toNat)
    case atStart => exact ⟨0, Nat.zero_le _, rfl, Lib.hid rfl, Lib.hid (Below.refl _ _)⟩
    case round =>
      obtain ⟨i, hi, rfl, HI, HW⟩ := hrel
      by_cases ilt : i < n
      · obtain ⟨x, p, rfl, hc⟩ := HA.out.here (by omega)
        obtain ⟨y, q, rfl, hd⟩ := HB.out.here (by omega)
        have hia : i < a.length := by rw [LA.out]; exact ilt
        have hib : i < b.length := by rw [LB.out]; exact ilt
        have c1 := cell_keep (hc i hia).1 HW.out
        have c2 := cell_keep (hc i hia).2 HW.out
        have d1 := cell_keep (hd i hib).1 HW.out
        have d2 := cell_keep (hd i hib).2 HW.out
        have HT := Lib.hid (take_eq_iff (by rw [LA.out, LB.out]) hia HI.out)
        have HG : Hid (a = b → a[i] = b[i]) := Lib.hid (fun z => by subst z; rfl)
        have i0 : (0 : Int) ≤ (i : Int) := by omega
        have i1 : (i : Int) < (n : Int) := by omega
        clear hc hd
        obtain ⟨s, hs⟩ : ∃ z, a[i] = z := ⟨_, rfl⟩
        obtain ⟨u, hu⟩ : ∃ z, b[i] = z := ⟨_, rfl⟩
        rw [hs] at c1 c2 HT HG
        rw [hu] at d1 d2 HT HG
        obtain ⟨s1, s2⟩ := s
        obtain ⟨u1, u2⟩ := u
        simp only at c1 c2 d1 d2
        clear hs hu
        have KA := (Below.refl _ wr).alloc (Nat.le_refl _) (.cells #[.int .i64 s1, .int .i64 s2] 35)
        have HW2 := Lib.hid (HW.out.alloc HW.out.size (.cells #[.int .i64 s1, .int .i64 s2] 35))
        have v1 := (box_cells wr (.int .i64 s1) (.int .i64 s2) 35).1
        have v2 := (box_cells wr (.int .i64 s1) (.int .i64 s2) 35).2
        replace d1 := cell_keep d1 KA
        replace d2 := cell_keep d2 KA
        clear KA
        by_cases e1 : s1 = u1
        · by_cases e2 : s2 = u2
          · subst e1 e2
            have HI2 : Hid (a.take (i + 1) = b.take (i + 1)) := Lib.hid (HT.out.2 rfl)
            have t3 : (s1 == s1) = true := by simp
            have t4 : (s2 == s2) = true := by simp
            go_wp2
            go_quiet (fail)
            go_wp2
            go_roundw
            case rel => exact ⟨i + 1, by omega, by go_num, HI2, Lib.hid (below_drewN HW2.out _)⟩
            case measure => simp [intOf]; omega
          · have HF : Hid (false = r) := Lib.hid (by
              cases r
              · rfl
              · have := HG.out (HR.out.1 rfl); simp only [Prod.mk.injEq] at this; exact absurd this.2 e2)
            have t3 : (u2 == s2) = false := by simp; omega
            have t4 : (s2 == u2) = false := by simpa using e2
            have t5 : (s1 == s1) = true := by simp
            subst e1
            clear e2
            go_wp2
            go_quiet (fail)
            go_wp2
            go_returns
            exact ⟨ret_bool HF.out, below_drewN HW2.out _⟩
        · have HF : Hid (false = r) := Lib.hid (by
            cases r
            · rfl
            · have := HG.out (HR.out.1 rfl); simp only [Prod.mk.injEq] at this; exact absurd this.1 e1)
          have t3 : (u1 == s1) = false := by simp; omega
          have t4 : (s1 == u1) = false := by simpa using e1
          clear e1
          go_wp2
          go_quiet (fail)
          go_wp2
          go_returns
          exact ⟨ret_bool HF.out, below_drewN HW2.out _⟩
      · have HF : Hid (true = r) := Lib.hid (by
          have h := HI.out
          rw [List.take_of_length_le (by rw [LA.out]; omega), List.take_of_length_le (by rw [LB.out]; omega)] at h
          exact (HR.out.2 h).symm)
        go_wp2
        go_returns
        exact ⟨ret_bool HF.out, HW.out⟩
  · have t1 : ((n : Int) != (m : Int)) = true := by simp; omega
    have HF : Hid (false = r) := Lib.hid (by
      cases r
      · rfl
      · have := HR.out.1 rfl; subst this; have := LA.out; have := LB.out; omega)
    clear hnm
    go_enter Try.func13, Try.ntmps13
    go_wp2
    go_returns
    exact ⟨ret_bool HF.out, Below.refl _ _⟩
theorem box_free (w : World) (x y : Value) (t : TypeId) (k : Nat) : (w.alloc (.cells #[x, y] t)).frozen? ⟨w.heap.size, k, none⟩ = false := by
  have h : (w.alloc (.cells #[x, y] t)).heap[w.heap.size]? = some (.cells #[x, y] t) := by
    show (w.heap.push _)[w.heap.size]? = _
    simp
  unfold World.frozen?
  rw [h]
  simp
/-- The hull: its ends, and whether there is one. -/
def hullA (l : List Sp) : Int := (l.getD 0 (0, 0)).1
def hullB (l : List Sp) : Int := (l.getD (l.length - 1) (0, 0)).2
theorem hull_any (ao : Option Addr) (n c : Nat) (l : List Sp) (w : World) (hw : SpAt w ao n c l) :
    Calls Try.prog 30 #[.slice ao n c] w fun e w' => e = .returned (.tuple #[.agg #[.int .i64 (hullA l), .int .i64 (hullB l)], .bool (decide (0 < n))]) ∧ Below w.heap.size w w' := by
  have LN := hw.len
  have hmx : n ≤ 9223372036854775807 := Nat.le_trans hw.le hw.top
  have KA := (Below.refl _ w).alloc (Nat.le_refl _) (.cells #[.int .i64 0, .int .i64 0] 35)
  by_cases h1 : n = 0
  · subst h1
    obtain rfl : l = [] := List.eq_nil_of_length_eq_zero LN
    clear LN hw KA
    go_enter Try.func30, Try.ntmps30
    go_wp2
    exact bodyPost_ret (v := .tuple #[.agg #[.int .i64 0, .int .i64 0], .bool false]) (by simp [results, Try.results30, go_sem]) rfl ⟨rfl, by go_grown⟩
  · obtain ⟨x, p, rfl, hc⟩ := hw.here (by omega)
    have hk : n - 1 < l.length := by omega
    have hm : 0 < l.length := by omega
    have c0 := (hc (n - 1) hk).2
    have d0 := (hc 0 hm).1
    have c1 := cell_keep (hc (n - 1) hk).2 KA
    have d1 := cell_keep (hc 0 hm).1 KA
    have v1 := (box_cells w (.int .i64 0) (.int .i64 0) 35).1
    have v2 := (box_cells w (.int .i64 0) (.int .i64 0) 35).2
    have e1 : hullA l = l[0].1 := by unfold hullA; rw [List.getD_eq_getElem?_getD, List.getElem?_eq_getElem hm]; rfl
    have e2 : hullB l = l[n - 1].2 := by unfold hullB; rw [LN, List.getD_eq_getElem?_getD, List.getElem?_eq_getElem hk]; rfl
    have e3 : decide (0 < n) = true := decide_eq_true (by omega)
    rw [e1, e2, e3]
    obtain ⟨k, hkk⟩ : ∃ k, n - 1 = k := ⟨_, rfl⟩
    have e4 : IntKind.i64.wrap ((n : Int) - 1) = (k : Int) := by rw [IntWalk.i64_in _ (by omega)]; omega
    have k0 : (0 : Int) ≤ (k : Int) := by omega
    have k1 : (k : Int) < (n : Int) := by omega
    have k2 : 0 < n := by omega
    have k3 : (0 : Int) < (n : Int) := by omega
    have t1 : ((n : Int) == 0) = false := by simp; omega
    obtain ⟨X, hX⟩ : ∃ z, l[n - 1].2 = z := ⟨_, rfl⟩
    obtain ⟨Y, hY⟩ : ∃ z, l[0].1 = z := ⟨_, rfl⟩
    rw [hX, hkk] at c1 c0
    rw [hY] at d1 d0
    rw [hX, hY]
    simp only [Nat.zero_mul, Nat.add_zero] at d1 d0
    have HC0 := Lib.hid c0
    have HD0 := Lib.hid d0
    clear c0 d0
    have HBf := Lib.hid KA
    have n1 : w.heap.size ≠ x := World.new_ne w _ (hc 0 hm).1
    clear hX hY hkk hc hw LN h1 hk hm e1 e2 e3 KA
    go_enter Try.func30, Try.ntmps30
    go_wp2
    have f1 := box_free w (.int .i64 0) (.int .i64 0) 35 0
    have f2 := box_free w (.int .i64 0) (.int .i64 0) 35 1
    obtain ⟨w0, hw0⟩ : ∃ q, w.alloc (.cells #[.int .i64 0, .int .i64 0] 35) = q := ⟨_, rfl⟩
    obtain ⟨bx, hbx⟩ : ∃ q, w.heap.size = q := ⟨_, rfl⟩
    rw [hw0] at v1 v2 c1 d1 HBf f1 f2 ⊢
    rw [hbx] at v1 v2 n1 f1 f2 ⊢
    have HBX := Lib.hid hbx
    clear hw0 hbx HC0 HD0
    have HR := Lib.hid ((HBf.out.setCell (p := ⟨bx, 0, none⟩) (Nat.le_of_eq HBX.out) (.int .i64 Y)).setCell (p := ⟨bx, 1, none⟩) (Nat.le_of_eq HBX.out) (.int .i64 X)).drew
    go_region_held3 (fun w' => w'.cell? ⟨x, p + k * 2 + 1, none⟩ = some (.int .i64 X) ∧ w'.cell? ⟨x, p, none⟩ = some (.int .i64 Y)) (go_keep) (fail)
    go_wp2
    exact bodyPost_ret (v := .tuple #[.agg #[.int .i64 Y, .int .i64 X], .bool true]) (by simp [results, Try.results30, go_sem, v1, v2]) rfl ⟨rfl, HR.out⟩
end Go.Proofs.Ythjpnnggghfepaa
